/- Registers of bytes. -/
import Derived.Test.YtmcclopkmoomeaaWdPack
open Go.RowKit
namespace Go.Proofs.Ytmcclopkmoomeaa.WdW
open AskM WdM Mem

/-- What a register is behind k bytes. -/
def regTo (b : List UInt8) (k j : Nat) : Nat := if 2 * j + 1 < k then 256 * (b.getD (2 * j) 0).toNat + (b.getD (2 * j + 1) 0).toNat else if 2 * j < k then (b.getD (2 * j) 0).toNat else 0
/-- m registers behind k bytes. -/
def regsTo (b : List UInt8) (m k : Nat) : Array Value := ((List.range m).map fun j => Value.int .u16 (regTo b k j : Int)).toArray
theorem regsTo_size (b : List UInt8) (m k : Nat) : (regsTo b m k).size = m := by simp [regsTo]
theorem regsTo_at (b : List UInt8) (m k : Nat) {j : Nat} (h : j < m) : (regsTo b m k)[j]? = some (.int .u16 (regTo b k j : Int)) := by simp [regsTo, h]
theorem regsTo_zero (b : List UInt8) (m : Nat) : Array.replicate m (Value.int .u16 0) = regsTo b m 0 := by
  unfold regsTo
  rw [← List.toArray_replicate]
  congr 1
  refine List.ext_getElem (by simp) fun i h1 h2 => ?_
  simp [regTo]
theorem regTo_lt (b : List UInt8) (k : Nat) : regTo b k (k / 2) < 256 := by
  unfold regTo
  rw [if_neg (by omega)]
  split
  · exact (b.getD _ 0).toNat_lt
  · omega
theorem regTo_next (b : List UInt8) (k : Nat) : regTo b (k + 1) (k / 2) = regTo b k (k / 2) * 256 + (b.getD k 0).toNat := by
  unfold regTo
  by_cases h : k % 2 = 0
  · rw [if_neg (by omega), if_pos (by omega), if_neg (by omega), if_neg (by omega), show 2 * (k / 2) = k by omega]
    omega
  · rw [if_pos (by omega), if_neg (by omega), if_pos (by omega), show 2 * (k / 2) + 1 = k by omega]
    omega
theorem regTo_else (b : List UInt8) {k j : Nat} (h : j ≠ k / 2) : regTo b (k + 1) j = regTo b k j := by
  unfold regTo
  by_cases h1 : 2 * j + 1 < k
  · rw [if_pos (by omega), if_pos h1]
  · rw [if_neg (by omega), if_neg h1]
    by_cases h2 : 2 * j < k
    · rw [if_pos (by omega), if_pos h2]
    · rw [if_neg (by omega), if_neg h2]
theorem regsTo_next {b : List UInt8} {m k : Nat} {x : UInt8} (h : b[k]? = some x) : (regsTo b m k).setIfInBounds (k / 2) (.int .u16 ((regTo b k (k / 2) * 256 + x.toNat : Nat) : Int)) = regsTo b m (k + 1) := by
  have hx : b.getD k 0 = x := by simp [List.getD, h]
  apply Array.ext
  · simp [regsTo_size]
  · intro i h1 h2
    rw [Array.getElem_setIfInBounds (by simpa using h1)]
    by_cases e : k / 2 = i
    · subst e
      rw [if_pos rfl]
      have := regTo_next b k
      rw [hx] at this
      rw [← this]
      simp [regsTo]
    · rw [if_neg e]
      simp [regsTo, regTo_else b (k := k) (j := i) (by omega)]
theorem regsTo_done {b : List UInt8} : regsTo b (b.length / 2) b.length = ((numsN b).map b16).toArray := by
  unfold regsTo
  congr 1
  refine List.ext_getElem (by simp [length_numsN]) fun i h1 h2 => ?_
  simp at h1 h2
  have hn := getD_numsN b i (by omega)
  rw [List.getD_eq_getElem?_getD, List.getElem?_eq_getElem (by rw [length_numsN]; omega)] at hn
  simp only [Option.getD_some] at hn
  simp only [List.getElem_map, List.getElem_range, hn, b16, toNat_num]
  unfold regTo
  rw [if_pos (by omega)]
theorem reg_val {R x : Nat} (hR : R < 256) (hx : x < 256) : bits .or .u16 ((R : Int) * 256) (x : Int) = ((R * 256 + x : Nat) : Int) := by
  have e : ((R : Int) * 256) = ((R * 256 : Nat) : Int) := by simp
  have h := (Nat.two_pow_add_eq_or_of_lt (i := 8) (show x < 2 ^ 8 by omega) R).symm
  rw [e, u16_or_nat _ _ (by omega) (by omega)]
  congr 1
  rw [show R * 256 = 2 ^ 8 * R by omega]
  exact h
/-- The call tells a list of its own, and yes or no. -/
def FreshOk (l : List UInt16) (ok : Bool) (w : World) (e : Ending) (w' : World) : Prop :=
  ∃ a c, e = .returned (.tuple #[.slice a l.length c, .bool ok]) ∧ Sl b16 w' w'.heap.size a l.length c l ∧ Below w.heap.size w w'
theorem FreshOk.of_own {l : List UInt16} {ok : Bool} {w w' : World} {v : Value} {n base : Nat} {T : TypeId} (h : w'.ownsRow base T 1 v n (l.map b16)) (hb : Below w.heap.size w w') {v' : Value} (hv : v' = .tuple #[v, .bool ok]) : FreshOk l ok w (.returned v') w' := by
  obtain ⟨a, c, rfl, hs⟩ := Sl.of_own h
  obtain rfl := hs.len
  subst hv
  exact ⟨a, c, rfl, hs, hb⟩
theorem even_int (n : Nat) : ((n : Int) % 2 != 0) = decide (n % 2 = 1) := by
  rw [Bool.eq_iff_iff]; simp; omega
set_option maxRecDepth 100000 in
theorem Regs_any (a : Option Addr) (n c : Nat) (l : List UInt8) (w : World) (hS : Sl b8 w w.heap.size a n c l) (hn : n ≤ 1000000) :
    Calls Try.prog 8 #[.slice a n c] w (FreshOk (regsN l) (decide (n % 2 = 0)) w) := by
  by_cases hodd : n % 2 = 1
  · have ht : ((n : Int) % 2 != 0) = true := by rw [even_int]; simp [hodd]
    have HR : Hid (regsN l = [] ∧ decide (n % 2 = 0) = false) := Lib.hid ⟨by unfold regsN; rw [if_neg (by rw [hS.len]; omega)], decide_eq_false (by omega)⟩
    rw [HR.out.1, HR.out.2]
    clear hodd hS
    go_enter Try.func8, Try.ntmps8
    go_wp2_with fail
    go_ret2
    exact ⟨none, 0, rfl, Sl.none_, Below.refl _ _⟩
  have ht : ((n : Int) % 2 != 0) = false := by rw [even_int]; simp; omega
  have HR : Hid (regsN l = numsN l ∧ decide (n % 2 = 0) = true) := Lib.hid ⟨by unfold regsN; rw [if_pos (by rw [hS.len]; omega)], decide_eq_true (by omega)⟩
  rw [HR.out.1, HR.out.2]
  have hev : n % 2 = 0 := by omega
  clear hodd HR
  obtain ⟨i0, hi0, hz0, hz1, hz2⟩ := info_parts info16
  have HL := Lib.hid hS.len
  have HX := Lib.hid (And.intro hi0 (And.intro hz0 (And.intro hz1 hz2)))
  clear hi0 hz0 hz1 hz2
  go_enter Try.func8, Try.ntmps8
  go_wp2_with (refine wpList_make_row rfl (.tmp 12) (.tmp 12) 24 rfl 36 i0 (.int .u16 0) 2 Try.underlying24 HX.out.1 HX.out.2.1 HX.out.2.2.1 HX.out.2.2.2 rfl .i64 .i64 _ _ (n / 2) (n / 2) rfl rfl ?c1 ?c2 (Nat.le_refl _) ?c3 ?c4 ?_)
  case c1 => omega
  case c2 => omega
  case c3 => omega
  case c4 => omega
  intro w1 h1 hb1 hs1
  have hr := h1.out
  rw [regsTo_zero l] at hr
  have H1 := Lib.hid hr
  clear hr h1 hs1
  go_wp2
  go_loopw [16] (fun i wr => ∃ k : Nat, k ≤ n ∧ i = .int .i64 k ∧ Below w.heap.size w wr ∧ wr.heap[w.heap.size]? = some (.cells (regsTo l (n / 2) k) 36 (0, 0))) (fun i _ => n - (intOf i).toNat)
  case atStart => exact ⟨0, by omega, rfl, hb1, H1.out⟩
  case round =>
    obtain ⟨k, hk, rfl, hb, hg⟩ := hrel
    clear hb1 H1
    by_cases hlt : k < n
    · have hl := hS.below hb (Nat.le_refl _)
      obtain ⟨b, off, x, rfl, hbk, hx, hcell⟩ := hl.at_ hlt
      have htt : decide ((k : Int) < (n : Int)) = true := by simp; omega
      have i1 : (0 : Int) ≤ (k : Int) := by omega
      have i2 : (k : Int) < (n : Int) := by omega
      have hR := regTo_lt l k
      have hc := regsTo_at l (n / 2) k (j := k / 2) (by omega)
      have hcell2 := (cell_of_row _ _ (k / 2) _ _ _ hg).trans hc
      have hfz := frozen_of_row _ _ (k / 2) _ _ hg
      have hst := heap_setCell_same _ _ (k / 2) _ _ (.int .u16 ((regTo l k (k / 2) * 256 + x.toNat : Nat) : Int)) hg
      rw [regsTo_next hx] at hst
      have HG := Lib.hid hst
      have i3 : (k : Int) / 2 < ((n / 2 : Nat) : Int) := by omega
      have hx8 := x.toNat_lt
      clear hx hl hS hst hc hg
      generalize regTo l k (k / 2) = R at *
      go_wp2
      go_region
      have he := reg_val hR hx8
      rw [he]
      clear he hcell2 hfz
      go_wp2
      go_roundw
      case rel => exact ⟨k + 1, by omega, by go_num, (hb.setCell (Nat.le_refl _) _).drew, HG.out⟩
      case measure => simp [intOf]; omega
    · obtain rfl : k = n := by omega
      clear hS
      have htt : decide ((k : Int) < (k : Int)) = false := by simp
      have HG := Lib.hid hg
      clear hg
      go_wp2
      go_ret2
      have h := HG.out
      rw [← HL.out, regsTo_done] at h
      have h2 := own_of_row (w := wr) (g := w.heap.size) (e := 36) (cs := (numsN l).map b16) h (n := k / 2) (by simp [length_numsN, HL.out]) (by simp [length_numsN, HL.out]; unfold maxLen; omega) (base := w.heap.size) (Nat.le_refl _)
      have h3 : ((numsN l).map b16).length = k / 2 := by simp [length_numsN, HL.out]
      rw [h3, List.take_of_length_le (by omega)] at h2
      exact FreshOk.of_own h2 hb (by simp)
end Go.Proofs.Ytmcclopkmoomeaa.WdW
