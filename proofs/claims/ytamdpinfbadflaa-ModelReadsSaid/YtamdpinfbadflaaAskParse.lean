/- Parse. -/
import Derived.Test.YtamdpinfbadflaaAskOut
open Go.RowKit
namespace Go.Proofs.Ytamdpinfbadflaa.AskW
open AskM Mem

theorem parse_over {l : List UInt8} (h : l.length = 0 ∨ 253 < l.length) : parseN l = none := by unfold parseN; rw [if_pos h]
theorem parse_is {l : List UInt8} (h : ¬ (l.length = 0 ∨ 253 < l.length)) : parseN l = if known (l.getD 0 0).toNat = true ∧ fitN (rowD (l.getD 0 0).toNat) (readN (rowD (l.getD 0 0).toNat) l) = true ∧ writeN (rowD (l.getD 0 0).toNat) (readN (rowD (l.getD 0 0).toNat) l) = l then some (readN (rowD (l.getD 0 0).toNat) l) else none := by
  unfold parseN
  rw [if_neg h]
  cases hk : known (l.getD 0 0).toNat
  · rw [known_none hk]; simp
  · rw [rowD_some hk]; simp

abbrev zeroC : Array Value := #[.int .u8 0, .int .u16 0, .int .u16 0, .int .u16 0, .slice none 0 0, .slice none 0 0]
theorem zero_block (w : World) : AskBlock (w.alloc (.cells zeroC 31)) w.heap.size := ⟨_, _, _, _, _, _, heap_alloc_new w _⟩

/-- While bytes are parsed: the answer's cell, still empty, the row and the request. -/
structure PW (w W : World) (gf gq : Nat) (R : Row) (q : Array Value) : Prop where
  below : Below w.heap.size w W
  zero : W.heap[w.heap.size]? = some (.cells zeroC 31 (0, 0))
  row : W.heap[gf]? = some (.cells #[.int .i64 (R.many : Int), .int .i64 (R.bits : Int), .int .i64 (R.words : Int), .bool R.to_] 85 (0, 0))
  req : W.heap[gq]? = some (.cells q 31 (0, 0))
section
variable {w W W' : World} {gf gq : Nat} {R : Row} {q : Array Value}
theorem PW.on (h : PW w W gf gq R q) (hb : Below W.heap.size W W') : PW w W' gf gq R q := by
  have lt : ∀ {g : Nat} {o : Obj}, W.heap[g]? = some o → g < W.heap.size := fun h => (Array.getElem?_eq_some_iff.1 h).1
  exact ⟨h.below.trans (hb.mono h.below.size), (hb.block _ (lt h.zero)).trans h.zero, (hb.block _ (lt h.row)).trans h.row, (hb.block _ (lt h.req)).trans h.req⟩
theorem PW.c0 (h : PW w W gf gq R q) (o : Nat) : W.cell? ⟨w.heap.size, o, none⟩ = zeroC[o]? := cell_of_row _ _ _ _ _ _ h.zero
theorem PW.c1 (h : PW w W gf gq R q) (o : Nat) : W.cell? ⟨gf, o, none⟩ = (#[.int .i64 (R.many : Int), .int .i64 (R.bits : Int), .int .i64 (R.words : Int), .bool R.to_] : Array Value)[o]? := cell_of_row _ _ _ _ _ _ h.row
theorem PW.c2 (h : PW w W gf gq R q) (o : Nat) : W.cell? ⟨gq, o, none⟩ = q[o]? := cell_of_row _ _ _ _ _ _ h.req
theorem PW.z0 (h : PW w W gf gq R q) (o : Nat) : W.frozen? ⟨w.heap.size, o, none⟩ = false := frozen_of_row _ _ _ _ _ h.zero
theorem PW.blk (h : PW w W gf gq R q) : AskBlock W w.heap.size := ⟨_, _, _, _, _, _, h.zero⟩
end
theorem len_numsN_le (l : List UInt8) : (numsN l).length ≤ l.length := by rw [length_numsN]; omega
theorem read_small (F : Row) (l : List UInt8) (h : l.length ≤ 253) : (readN F l).words.length ≤ 1000000 ∧ (readN F l).bits.length ≤ 1000000 := by
  unfold readN
  constructor
  · simp only
    split
    · rw [length_numsN, List.length_drop]; omega
    · simp
  · simp only
    split
    · simp
    · split
      · rw [List.length_take, length_unpackN, List.length_drop]; omega
      · simp

set_option maxHeartbeats 4000000 in
theorem Parse_any (a : Option Addr) (n c : Nat) (l : List UInt8) (w : World) (hS : Sl b8 w w.heap.size a n c l) :
    Calls Try.prog 41 #[.slice a n c] w (Parsed (parseN l) w) := by
  have hn := len_le hS
  have hl := hS.len
  by_cases h0 : n = 0
  · have HP := Lib.hid (parse_over (l := l) (.inl (by omega)))
    subst h0
    clear hl
    go_enter Try.func41, Try.ntmps41
    go_wp2_with fail
    exact bodyPost_ret (results_cell_row_tmp rfl _ _ w.heap.size 31 zeroC (0, 0) _ rfl (heap_alloc_new w _) Try.underlying31 rfl (by kernel_rfl) _ rfl) rfl (parsed_none HP.out ((Below.refl _ _).alloc (Nat.le_refl _) _))
  have h0' : ((n : Int) == 0) = false := by simp; omega
  by_cases h1 : 253 < n
  · have HP := Lib.hid (parse_over (l := l) (.inr (by omega)))
    have h1' : decide (253 < (n : Int)) = true := by simp; omega
    clear hl
    go_enter Try.func41, Try.ntmps41
    go_wp2_with fail
    exact bodyPost_ret (results_cell_row_tmp rfl _ _ w.heap.size 31 zeroC (0, 0) _ rfl (heap_alloc_new w _) Try.underlying31 rfl (by kernel_rfl) _ rfl) rfl (parsed_none HP.out ((Below.refl _ _).alloc (Nat.le_refl _) _))
  have h1' : decide (253 < (n : Int)) = false := by simp; omega
  have HP := Lib.hid (parse_is (l := l) (by omega))
  obtain ⟨b, off, x, rfl, hbk, hx, hcell⟩ := hS.at_ (k := 0) (by omega)
  rw [Nat.add_zero] at hcell
  have hx0 : l.getD 0 0 = x := getD_zero hx
  rw [hx0] at HP
  have hc := x.toNat_lt
  have q1 := fun (o1 : Obj) => ask_at hc (((w.alloc o1).alloc (.map (entA 9) 9)).drew) (w.heap.size + 1) (at_one w o1 _)
  have q2 := fun (o1 o2 : Obj) => ask_at hc ((((w.alloc o1).alloc (.map (entA 9) 9)).alloc o2).drew) (w.heap.size + 1) (at_one_of w o1 _ o2)
  have q3 := fun (o1 o2 : Obj) => ask_at hc ((((w.alloc o1).alloc o2).alloc (.map (entA 9) 9)).drew) (w.heap.size + 1 + 1) (at_two w o1 o2 _)
  have k1 := fun (o1 : Obj) => (World.cell?_alloc_lt w o1 ⟨b, off, none⟩ hbk).trans hcell
  have k2 := fun (o1 o2 : Obj) => (World.cell?_alloc_lt (w.alloc o1) o2 ⟨b, off, none⟩ (by simp; omega)).trans (k1 o1)
  have k3 := fun (o1 o2 o3 : Obj) => (World.cell?_alloc_lt ((w.alloc o1).alloc o2) o3 ⟨b, off, none⟩ (by simp; omega)).trans (k2 o1 o2)
  have hsm := read_small (rowD x.toNat) l (by omega)
  have hread := fun (h : known x.toNat = true) (W : World) (hS : Sl b8 W W.heap.size (some ⟨b, off, none⟩) n c l) => read_any (rowD_some h) (some ⟨b, off, none⟩) n c l W hS (by omega) (by omega)
  have hfit := fun (h : known x.toNat = true) (q : Req) aw cw ab cb (w1 : World) h1 h2 => fit_any (rowD x.toNat) (rowOk (rowD_some h)) q aw cw ab cb w1 h1 h2
  have hwrite := fun (h : known x.toNat = true) (q : Req) aw cw ab cb (w1 : World) h1 h2 => write_any (rowD x.toNat) (rowOk (rowD_some h)) q aw cw ab cb w1 h1 h2
  generalize known x.toNat = ok at *
  generalize rowD x.toNat = R at *
  have HS := Lib.hid hS
  have HX := Lib.hid (And.intro hread (And.intro hfit hwrite))
  clear hx hx0 hS hread hfit hwrite hl
  obtain ⟨fm, fb, fw, ftt⟩ := R
  go_enter Try.func41, Try.ntmps41
  go_upto_region 3 with fail
  go_cut [4, 5] (fun s3 s4 wx => Asked (w.alloc (.cells #[.int .u8 0, .int .u16 0, .int .u16 0, .int .u16 0, .slice none 0 0, .slice none 0 0] 31)) ⟨fm, fb, fw, ftt⟩ ok s3 s4 wx)
  case first =>
    go_region_with ((go_at_call 40; refine (table_any _).mono ?_; rintro e w' ⟨rfl, rfl⟩))
    all_goals (go_wp2_with fail; go_meet; first | exact asked_a w _ _ ⟨fm, fb, fw, ftt⟩ _ | exact asked_b w _ _ ⟨fm, fb, fw, ftt⟩ _)
  case rest =>
    obtain ⟨gf, rfl, rfl, hg1, hg2, hC, hA, hAh, hB, hH⟩ := hcut.facts
    clear hcut q1 q2 q3 k1 k2 k3
    have hAB : AskBlock wc w.heap.size := ⟨_, _, _, _, _, _, hAh⟩
    have hAh2 := Lib.hid hAh
    have hZ := hAB.frozen
    have HB := Lib.hid (And.intro hB (And.intro hAB hH))
    clear hB hAh hH hAB
    cases ok
    · clear HX
      go_wp2_with fail
      exact bodyPost_ret (results_cell_row_tmp rfl _ _ w.heap.size 31 zeroC (0, 0) _ rfl (setAll_heap HB.out.2.1) Try.underlying31 rfl (by kernel_rfl) _ rfl) rfl
        (parsed_none (by rw [HP.out]; simp) (setAll_below HB.out.1 (Nat.le_refl _)))
    · obtain ⟨hread, hfit, hwrite⟩ := HX.out
      have HR := Lib.hid (hread (by trivial))
      have HF := Lib.hid (hfit (by trivial))
      have HW := Lib.hid (hwrite (by trivial))
      clear hread hfit hwrite HX
      go_wp2_with fail
      refine (HR.out _ ((HS.out.below HB.out.1 (Nat.le_refl _)).more HB.out.1.size)).mono ?_
      rintro e w1 ⟨aw, cw, ab, cb, rfl, hA1, hb, hfr⟩
      have HFR := Lib.hid hfr
      clear hfr
      have hs1 : w.heap.size < wc.heap.size := by omega
      have HPW : Hid (∀ cs, PW w (w1.alloc (.cells cs 31)) gf w1.heap.size ⟨fm, fb, fw, ftt⟩ cs) := Lib.hid (fun cs =>
        ⟨(HB.out.1.trans (hb.mono HB.out.1.size)).alloc (by have := hb.size; omega) _, (Below.heap_alloc _ _ _ (by have := hb.size; omega)).trans ((hb.block _ hs1).trans hAh2.out), (Below.heap_alloc _ _ _ (by have := hb.size; omega)).trans ((hb.block _ hg2).trans HB.out.2.2), heap_alloc_new _ _⟩)
      have HA1 := Lib.hid hA1
      clear hA hA1 hC hb hZ HR
      generalize readN ⟨fm, fb, fw, ftt⟩ l = q at *
      obtain ⟨f1, a1, m1, t1, ws, bs⟩ := q
      have HPW2 := Lib.hid (HPW.out #[.int .u8 (f1.toNat : Int), .int .u16 (a1.toNat : Int), .int .u16 (m1.toNat : Int), .int .u16 (t1.toNat : Int), .slice aw ws.length cw, .slice ab bs.length cb])
      clear HPW
      have C1 := HPW2.out.c1
      have D1 := fun (o : Obj) (i : Nat) => C1 i
      have HF2 := Lib.hid (HF.out ⟨f1, a1, m1, t1, ws, bs⟩ aw cw ab cb (w1.alloc (.cells #[.int .u8 (f1.toNat : Int), .int .u16 (a1.toNat : Int), .int .u16 (m1.toNat : Int), .int .u16 (t1.toNat : Int), .slice aw ws.length cw, .slice ab bs.length cb] 31)) hsm.1 hsm.2)
      clear HF D1
      generalize hft : fitN ⟨fm, fb, fw, ftt⟩ ⟨f1, a1, m1, t1, ws, bs⟩ = ft at *
      have HT := Lib.hid hft
      clear hft
      go_wp2_with fail
      refine (HF2.out).mono ?_
      rintro e w2 ⟨rfl, hb⟩
      have HP2 := Lib.hid (HPW2.out.on hb)
      have HA2 := Lib.hid (((HA1.out.below ((Below.refl _ _).alloc (Nat.le_refl _) _))).below hb)
      clear C1 HF2 HPW2 hb HA1
      have C0 := HP2.out.c0
      have C1 := HP2.out.c1
      have C2 := HP2.out.c2
      have Z0 := HP2.out.z0
      cases ft
      · go_wp2_with fail
        exact bodyPost_ret (results_cell_row_tmp rfl _ _ w.heap.size 31 zeroC (0, 0) _ rfl (setAll_heap HP2.out.blk) Try.underlying31 rfl (by kernel_rfl) _ rfl) rfl
          (parsed_none (by rw [HP.out]; simp) (setAll_below HP2.out.below (Nat.le_refl _)))
      · go_wp2_with fail
        refine (HW.out _ _ _ _ _ _ HA2.out HT.out).mono ?_
        rintro e w3 ⟨al, cl, rfl, hs, hb, hx⟩
        have HP3 := Lib.hid (HP2.out.on hb)
        have HA3 := Lib.hid (HA2.out.below hb)
        have HS3 := Lib.hid hs
        clear C0 C1 C2 Z0 hs hb hx HW
        generalize writeN ⟨fm, fb, fw, ftt⟩ ⟨f1, a1, m1, t1, ws, bs⟩ = L at *
        go_wp2_with fail
        refine (Equal_any _ _ _ _ _ _ _ _ _ _ _ HS3.out (HS.out.below HP3.out.below (Nat.le_refl _))).mono ?_
        intro e w4 h
        have HP4 := Lib.hid (HP3.out.on h.below)
        have HA4 := Lib.hid (HA3.out.below h.below)
        obtain ⟨rfl, -⟩ := h
        have C0 := HP4.out.c0
        have C1 := HP4.out.c1
        have C2 := HP4.out.c2
        have Z0 := HP4.out.z0
        by_cases hL : L = l
        · rw [decide_eq_true hL]
          have HL := Lib.hid hL
          clear hL
          go_wp2_with fail
          have hfr : ∀ x : Addr, aw = some x ∨ ab = some x → w.heap.size < x.block := fun x hx => Nat.lt_of_lt_of_le hs1 (HFR.out x hx)
          exact bodyPost_ret (results_cell_row_tmp rfl _ _ w.heap.size 31 _ (0, 0) _ rfl (setAll_heap HP4.out.blk) Try.underlying31 rfl (by kernel_rfl) _ rfl) rfl
            (parsed_some (by rw [HP.out, if_pos ⟨trivial, trivial, HL.out⟩]) ⟨setAll_sl HA4.out.words (fun x hx => by have := hfr x (.inl hx); omega), setAll_sl HA4.out.bits (fun x hx => by have := hfr x (.inr hx); omega)⟩ (setAll_below HP4.out.below (Nat.le_refl _)) (fun x hx => Nat.le_of_lt (hfr x hx)))
        · rw [decide_eq_false hL]
          have HL := Lib.hid hL
          clear hL
          go_wp2_with fail
          exact bodyPost_ret (results_cell_row_tmp rfl _ _ w.heap.size 31 zeroC (0, 0) _ rfl (setAll_heap HP4.out.blk) Try.underlying31 rfl (by kernel_rfl) _ rfl) rfl
            (parsed_none (by rw [HP.out, if_neg (fun h => HL.out h.2.2)]) (setAll_below HP4.out.below (Nat.le_refl _)))
end Go.Proofs.Ytamdpinfbadflaa.AskW
