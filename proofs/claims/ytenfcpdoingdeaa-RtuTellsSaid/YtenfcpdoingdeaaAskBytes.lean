/- Bytes. -/
import Derived.Test.YtenfcpdoingdeaaAskRight
open Go.RowKit
namespace Go.Proofs.Ytenfcpdoingdeaa.AskW
open AskM Mem

/-- The call answers bytes and OK, or none and ErrAsk; nothing that was there is written. -/
def Gives (o : Option (List UInt8)) (w : World) (e : Ending) (w' : World) : Prop :=
  match o with
  | some b => ∃ a c, e = .returned (.tuple #[.slice a b.length c, .int .i64 0]) ∧ Sl b8 w' w'.heap.size a b.length c b ∧ Below w.heap.size w w' ∧ ∀ x : Addr, a = some x → w.heap.size ≤ x.block
  | none => e = .returned (.tuple #[.slice none 0 0, .int .i64 12]) ∧ Below w.heap.size w w'
theorem gives_none {o : Option (List UInt8)} {w w' : World} (ho : o = none) (h : Below w.heap.size w w') : Gives o w (.returned (.tuple #[.slice none 0 0, .int .i64 12])) w' := by subst ho; exact ⟨rfl, h⟩
theorem gives_some {o : Option (List UInt8)} {b : List UInt8} {w w' : World} {a : Option Addr} {n c : Nat} (ho : o = some b) (hs : Sl b8 w' w'.heap.size a n c b) (h : Below w.heap.size w w') (hx : ∀ x : Addr, a = some x → w.heap.size ≤ x.block) : Gives o w (.returned (.tuple #[.slice a n c, .int .i64 0])) w' := by
  subst ho
  obtain rfl := hs.len
  exact ⟨a, c, rfl, hs, h, hx⟩

set_option maxHeartbeats 2000000 in
theorem Bytes_any (a : Req) (aw : Option Addr) (cw : Nat) (ab : Option Addr) (cb : Nat) (w : World) (hA : AskAt w w.heap.size a aw cw ab cb) (hnw : a.words.length ≤ 1000000) (hnb : a.bits.length ≤ 1000000) :
    Calls Try.prog 8 #[askV a aw cw ab cb] w (Gives (bytesN a) w) := by
  have hc := a.fn.toNat_lt
  have q1 := fun (o1 : Obj) => ask_at hc (((w.alloc o1).alloc (.map (entA 9) 9)).drew) (w.heap.size + 1) (at_one w o1 _)
  have q2 := fun (o1 o2 : Obj) => ask_at hc ((((w.alloc o1).alloc (.map (entA 9) 9)).alloc o2).drew) (w.heap.size + 1) (at_one_of w o1 _ o2)
  have q3 := fun (o1 o2 : Obj) => ask_at hc ((((w.alloc o1).alloc o2).alloc (.map (entA 9) 9)).drew) (w.heap.size + 1 + 1) (at_two w o1 o2 _)
  have hbytes : Hid (bytesN a = if known a.fn.toNat = true ∧ fitN (rowD a.fn.toNat) a = true then some (writeN (rowD a.fn.toNat) a) else none) := by
    unfold Hid bytesN
    cases hk : known a.fn.toNat
    · rw [known_none hk]; simp
    · rw [rowD_some hk]; simp
  have hfit := fun (h : known a.fn.toNat = true) (w : World) => fit_any (rowD a.fn.toNat) (rowOk (rowD_some h)) a aw cw ab cb w hnw hnb
  have hwrite := fun (h : known a.fn.toNat = true) (h2 : fitN (rowD a.fn.toNat) a = true) (w1 : World) (hb : Below w.heap.size w w1) => write_any (rowD a.fn.toNat) (rowOk (rowD_some h)) a aw cw ab cb w1 (hA.below hb) h2
  generalize known a.fn.toNat = ok at *
  generalize rowD a.fn.toNat = R at *
  clear hA
  generalize hft : fitN R a = ft at *
  generalize writeN R a = L at *
  clear hft
  obtain ⟨fn, at_, many, to_, words, bits⟩ := a
  obtain ⟨fm, fb, fw, ftt⟩ := R
  go_enter Try.func8, Try.ntmps8
  go_upto_region 1 with fail
  go_cut [4, 5] (fun s3 s4 wx => Asked (w.alloc (.cells #[b8 fn, b16 at_, b16 many, b16 to_, .slice aw words.length cw, .slice ab bits.length cb] 26)) ⟨fm, fb, fw, ftt⟩ ok s3 s4 wx)
  case first =>
    go_region_with ((go_at_call 49; refine (table_any _).mono ?_; rintro e w' ⟨rfl, rfl⟩))
    all_goals (go_wp2_with fail; go_meet; first | exact asked_a w _ _ ⟨fm, fb, fw, ftt⟩ _ | exact asked_b w _ _ ⟨fm, fb, fw, ftt⟩ _)
  case rest =>
    obtain ⟨gf, rfl, rfl, hg1, hg2, hC, hA, hAh, hB, hH⟩ := hcut.facts
    clear hcut q1 q2 q3
    have HB := Lib.hid (And.intro hB (And.intro hAh hH))
    clear hB hAh hH
    cases ok
    · clear hfit hwrite
      go_wp2_with fail
      go_ret2
      exact gives_none (by rw [hbytes.out]; simp) HB.out.1
    · have hfit2 := hfit rfl
      clear hfit
      have HW := Lib.hid (hwrite rfl)
      clear hwrite
      go_wp2_with fail
      refine (hfit2 _).mono ?_
      rintro e w1 ⟨rfl, hb⟩
      have hB1 := HB.out.1.trans (hb.mono HB.out.1.size)
      have hC1 := fun o => (hb.cell (p := ⟨gf, o, none⟩) hg2).trans (hC o)
      have hA1 := fun o => (hb.cell (p := ⟨w.heap.size, o, none⟩) (by have := HB.out.1.size; show w.heap.size < wc.heap.size; omega)).trans (hA o)
      have HB1 := Lib.hid hB1
      clear hC hA hb hB1
      cases ft
      · go_wp2_with fail
        go_ret2
        exact gives_none (by rw [hbytes.out]; simp) HB1.out
      · go_wp2_with fail
        refine (HW.out (by trivial) _ HB1.out).mono ?_
        rintro e w2 ⟨al, cl, rfl, hs, hb2, hx⟩
        have hB2 := HB1.out.trans (hb2.mono HB1.out.size)
        have HE := Lib.hid (And.intro hs (And.intro hB2 hx))
        clear hs hb2 hB2 hx hC1 hA1
        go_wp2_with fail
        go_ret2
        exact gives_some (by rw [hbytes.out]; simp) HE.out.1 HE.out.2.1 (fun x hx => Nat.le_trans HB1.out.size (HE.out.2.2 x hx))
end Go.Proofs.Ytenfcpdoingdeaa.AskW
