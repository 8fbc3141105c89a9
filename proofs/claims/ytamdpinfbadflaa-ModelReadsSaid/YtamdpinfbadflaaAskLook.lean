/- Look. -/
import Derived.Test.YtamdpinfbadflaaAskParse
open Go.RowKit
namespace Go.Proofs.Ytamdpinfbadflaa.AskW
open AskM Mem

/-- The call answers a request and what is wrong; nothing that was there is written. -/
def Looked (r : Req × Nat) (w : World) (e : Ending) (w' : World) : Prop :=
  ∃ aw cw ab cb, e = .returned (.tuple #[askV r.1 aw cw ab cb, .int .u8 (r.2 : Int)]) ∧ AskAt w' w'.heap.size r.1 aw cw ab cb ∧ Below w.heap.size w w' ∧ ∀ x : Addr, aw = some x ∨ ab = some x → w.heap.size ≤ x.block
theorem looked_bare {r : Req × Nat} {c : UInt8} {k : Nat} {w w' : World} (hr : r = (bare c, k)) (h : Below w.heap.size w w') {z : Int} (hz : z = (c.toNat : Int)) {y : Int} (hy : y = (k : Int)) : Looked r w (.returned (.tuple #[.agg #[.int .u8 z, .int .u16 0, .int .u16 0, .int .u16 0, .slice none 0 0, .slice none 0 0], .int .u8 y])) w' := by
  subst hr hz hy
  exact ⟨none, 0, none, 0, rfl, ⟨Sl.none_, Sl.none_⟩, h, fun x hx => by rcases hx with hx | hx <;> cases hx⟩
theorem looked_some {r : Req × Nat} {q : Req} {w w' : World} (hr : r = (q, 0)) {aw ab : Option Addr} {cw cb : Nat} (hA : AskAt w' w'.heap.size q aw cw ab cb) (h : Below w.heap.size w w') (hx : ∀ x : Addr, aw = some x ∨ ab = some x → w.heap.size ≤ x.block) : Looked r w (.returned (.tuple #[askV q aw cw ab cb, .int .u8 0])) w' := by
  subst hr
  exact ⟨aw, cw, ab, cb, rfl, hA, h, hx⟩

theorem setAlloc_heap {W : World} {g : Nat} {f b m t ws bs : Value} {o : Obj} (hs : g < W.heap.size) (h : AskBlock W g) : ((setAll W g f b m t ws bs).alloc o).heap[g]? = some (.cells #[f, b, m, t, ws, bs] 31 (0, 0)) :=
  (Below.heap_alloc _ _ _ (by rw [setAll_size]; exact hs)).trans (setAll_heap h)
theorem setAlloc_sl {α : Type} {q : α → Value} {W : World} {g : Nat} {f b m t ws bs : Value} {o : Obj} {n c : Nat} {a : Option Addr} {l : List α} (h : Sl q W W.heap.size a n c l) (hne : ∀ x : Addr, a = some x → x.block ≠ g) :
    Sl q ((setAll W g f b m t ws bs).alloc o) ((setAll W g f b m t ws bs).alloc o).heap.size a n c l := ((setAll_sl h hne).alloc (Nat.le_refl _) o).more (by simp)
set_option maxHeartbeats 4000000 in
theorem Look_any (a : Option Addr) (n c : Nat) (l : List UInt8) (w : World) (hS : Sl b8 w w.heap.size a n c l) :
    Calls Try.prog 21 #[.slice a n c] w (Looked (lookN l) w) := by
  have hn := len_le hS
  have hl := hS.len
  by_cases h0 : n = 0
  · have HP : Hid (lookN l = (bare 0, 1)) := Lib.hid (by unfold lookN; rw [if_pos (by omega)])
    subst h0
    clear hl
    go_enter Try.func21, Try.ntmps21
    go_wp2_with fail
    exact bodyPost_ret (results_cell_row_tmp rfl _ _ w.heap.size 31 zeroC (0, 0) _ rfl (heap_alloc_new w _) Try.underlying31 rfl (by kernel_rfl) _ rfl) rfl (looked_bare HP.out ((Below.refl _ _).alloc (Nat.le_refl _) _) rfl rfl)
  have h0' : ((n : Int) == 0) = false := by simp; omega
  have hl0 : ¬ l.length = 0 := by omega
  obtain ⟨b, off, x, rfl, hbk, hx, hcell⟩ := hS.at_ (k := 0) (by omega)
  rw [Nat.add_zero] at hcell
  have hx0 : l.getD 0 0 = x := getD_zero hx
  have HP : Hid (lookN l = if known x.toNat = false then (bare x, 1) else match parseN l with | some a => (a, 0) | none => (bare x, 3)) := Lib.hid (by unfold lookN; rw [if_neg hl0, hx0]; rfl)
  have hc := x.toNat_lt
  have q1 := fun (o1 : Obj) => ask_at hc (((w.alloc o1).alloc (.map (entA 9) 9)).drew) (w.heap.size + 1) (at_one w o1 _)
  have q2 := fun (o1 o2 : Obj) => ask_at hc ((((w.alloc o1).alloc (.map (entA 9) 9)).alloc o2).drew) (w.heap.size + 1) (at_one_of w o1 _ o2)
  have q3 := fun (o1 o2 : Obj) => ask_at hc ((((w.alloc o1).alloc o2).alloc (.map (entA 9) 9)).drew) (w.heap.size + 1 + 1) (at_two w o1 o2 _)
  have k1 := fun (o1 : Obj) => (World.cell?_alloc_lt w o1 ⟨b, off, none⟩ hbk).trans hcell
  have k2 := fun (o1 o2 : Obj) => (World.cell?_alloc_lt (w.alloc o1) o2 ⟨b, off, none⟩ (by simp; omega)).trans (k1 o1)
  have k3 := fun (o1 o2 o3 : Obj) => (World.cell?_alloc_lt ((w.alloc o1).alloc o2) o3 ⟨b, off, none⟩ (by simp; omega)).trans (k2 o1 o2)
  generalize known x.toNat = ok at *
  generalize rowD x.toNat = R at *
  have HS := Lib.hid hS
  clear hx hx0 hS hl hl0
  obtain ⟨fm, fb, fw, ftt⟩ := R
  go_enter Try.func21, Try.ntmps21
  go_upto_region 3 with fail
  go_cut [4, 5] (fun s3 s4 wx => Asked (w.alloc (.cells #[.int .u8 0, .int .u16 0, .int .u16 0, .int .u16 0, .slice none 0 0, .slice none 0 0] 31)) ⟨fm, fb, fw, ftt⟩ ok s3 s4 wx)
  case first =>
    go_region_with ((go_at_call 40; refine (table_any _).mono ?_; rintro e w' ⟨rfl, rfl⟩))
    all_goals (go_wp2_with fail; go_meet; first | exact asked_a w _ _ ⟨fm, fb, fw, ftt⟩ _ | exact asked_b w _ _ ⟨fm, fb, fw, ftt⟩ _)
  case rest =>
    obtain ⟨gf, rfl, rfl, hg1, hg2, hC, hA, hAh, hB, hH⟩ := hcut.facts
    clear hcut q1 q2 q3 k1 k2 k3 hC hH
    have hAB : AskBlock wc w.heap.size := ⟨_, _, _, _, _, _, hAh⟩
    have hZ := hAB.frozen
    have hcc := (hB.cell (p := ⟨b, off, none⟩) hbk).trans hcell
    have HB := Lib.hid (And.intro hB hAh)
    clear hB hAh hAB
    cases ok
    · go_wp2_with fail
      exact bodyPost_ret (results_cell_row_tmp rfl _ _ w.heap.size 31 _ (0, 0) _ rfl (setAll_heap ⟨_, _, _, _, _, _, HB.out.2⟩) Try.underlying31 rfl (by kernel_rfl) _ rfl) rfl
        (looked_bare (by rw [HP.out]; simp) (setAll_below HB.out.1 (Nat.le_refl _)) rfl rfl)
    · go_wp2_with fail
      refine (Parse_any _ _ _ _ _ ((HS.out.below HB.out.1 (Nat.le_refl _)).more HB.out.1.size)).mono ?_
      rintro e w1 ⟨aw, cw, ab, cb, rfl, hA1, hb, hfr⟩
      have hs1 : w.heap.size < wc.heap.size := by omega
      have HFR : Hid (∀ x : Addr, aw = some x ∨ ab = some x → w.heap.size < x.block) := Lib.hid (fun x hx => Nat.lt_of_lt_of_le hs1 (hfr x hx))
      have HD1 := Lib.hid ((hb.block _ hs1).trans HB.out.2)
      have HB1 := Lib.hid (HB.out.1.trans (hb.mono HB.out.1.size))
      have HA1 := Lib.hid hA1
      have hs2 : w.heap.size < w1.heap.size := by have := hb.size; omega
      have E0 := fun (i : Nat) => cell_of_row _ _ i _ _ _ HD1.out
      have E1 := fun (o : Obj) (i : Nat) => (World.cell?_alloc_lt w1 o ⟨w.heap.size, i, none⟩ hs2).trans (E0 i)
      have EB := fun (o : Obj) => (World.cell?_alloc_lt w1 o ⟨b, off, none⟩ (by show b < w1.heap.size; omega)).trans ((HB1.out.cell (p := ⟨b, off, none⟩) hbk).trans hcell)
      have EZ := fun (i : Nat) => frozen_of_row w1 w.heap.size i _ _ HD1.out
      have EZ1 := fun (o : Obj) (i : Nat) => frozen_of_row (w1.alloc o) w.heap.size i _ _ ((Below.heap_alloc w1 o _ hs2).trans HD1.out)
      clear hA1 hb hfr hA hZ hcc hcell
      generalize parseN l = po at *
      cases po with
      | none =>
        have HN : Hid (lookN l = (bare x, 3)) := Lib.hid (by rw [HP.out]; simp)
        clear HP
        simp only [Option.getD_none, Option.isSome_none, Bool.false_eq_true, if_false, bare]
        go_wp2_with fail
        change bodyPost _ _ _ _ _ ((setAll w1 w.heap.size (.int .u8 (x.toNat : Int)) (.int .u16 0) (.int .u16 0) (.int .u16 0) (.slice none 0 0) (.slice none 0 0)).alloc _)
        exact bodyPost_ret (v := .tuple #[.agg #[.int .u8 (x.toNat : Int), .int .u16 0, .int .u16 0, .int .u16 0, .slice none 0 0, .slice none 0 0], .int .u8 3]) (results_cell_row_tmp rfl _ _ w.heap.size 31 _ (0, 0) _ rfl (setAlloc_heap hs2 ⟨_, _, _, _, _, _, HD1.out⟩) Try.underlying31 rfl (by kernel_rfl) _ rfl) rfl
          (looked_bare HN.out ((setAll_below HB1.out (Nat.le_refl _)).alloc (by rw [setAll_size]; omega) _) rfl rfl)
      | some q =>
        obtain ⟨f1, a1, m1, t1, ws, bs⟩ := q
        have HN : Hid (lookN l = (⟨f1, a1, m1, t1, ws, bs⟩, 0)) := Lib.hid (by rw [HP.out]; simp)
        clear HP
        simp only [Option.getD_some, Option.isSome_some, if_true] at HA1 ⊢
        go_wp2_with fail
        change bodyPost _ _ _ _ _ ((setAll w1 w.heap.size (.int .u8 (f1.toNat : Int)) (.int .u16 (a1.toNat : Int)) (.int .u16 (m1.toNat : Int)) (.int .u16 (t1.toNat : Int)) (.slice aw ws.length cw) (.slice ab bs.length cb)).alloc _)
        exact bodyPost_ret (v := .tuple #[askV ⟨f1, a1, m1, t1, ws, bs⟩ aw cw ab cb, .int .u8 0]) (results_cell_row_tmp rfl _ _ w.heap.size 31 _ (0, 0) _ rfl (setAlloc_heap hs2 ⟨_, _, _, _, _, _, HD1.out⟩) Try.underlying31 rfl (by kernel_rfl) _ rfl) rfl
          (looked_some HN.out ⟨setAlloc_sl HA1.out.words (fun x hx => by have := HFR.out x (.inl hx); omega), setAlloc_sl HA1.out.bits (fun x hx => by have := HFR.out x (.inr hx); omega)⟩ ((setAll_below HB1.out (Nat.le_refl _)).alloc (by rw [setAll_size]; omega) _) (fun x hx => Nat.le_of_lt (HFR.out x hx)))
end Go.Proofs.Ytamdpinfbadflaa.AskW
