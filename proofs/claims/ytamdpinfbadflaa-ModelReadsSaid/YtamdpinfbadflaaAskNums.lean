/- Numbers that bytes consist of. -/
import Derived.Test.YtamdpinfbadflaaAskPut
open Go.RowKit
namespace Go.Proofs.Ytamdpinfbadflaa.AskW
open AskM Mem

/-- m numbers, the first k of which have been read. -/
def numsTo (l : List UInt8) (m k : Nat) : Array Value := ((List.range m).map fun j => if j < k then b16 ((numsN l).getD j 0) else Value.int .u16 0).toArray
theorem numsTo_size (l : List UInt8) (m k : Nat) : (numsTo l m k).size = m := by simp [numsTo]
theorem numsTo_zero (l : List UInt8) (m : Nat) : Array.replicate m (Value.int .u16 0) = numsTo l m 0 := by
  unfold numsTo
  rw [← List.toArray_replicate]
  congr 1
  refine List.ext_getElem (by simp) fun i h1 h2 => ?_
  simp
theorem numsTo_at (l : List UInt8) {m k : Nat} (h : k < m) : ∃ v, (numsTo l m k)[k]? = some v := by
  exact ⟨_, Array.getElem?_eq_getElem (by rw [numsTo_size]; exact h)⟩
theorem numsTo_next (l : List UInt8) {m k : Nat} (h : 2 * k + 1 < l.length) : (numsTo l m k).setIfInBounds k (b16 (at16 (l.drop (2 * k)) 0)) = numsTo l m (k + 1) := by
  have e : at16 (l.drop (2 * k)) 0 = (numsN l).getD k 0 := by
    rw [at16_drop, getD_numsN l k h, Nat.add_zero]
    unfold at16
    rw [if_pos h]
  rw [e]
  apply Array.ext
  · simp [numsTo_size]
  · intro i h1 h2
    rw [Array.getElem_setIfInBounds (by simpa using h1)]
    by_cases e : k = i
    · subst e
      rw [if_pos rfl]
      simp [numsTo]
    · rw [if_neg e]
      by_cases h3 : i < k
      · simp [numsTo, h3, show i < k + 1 by omega]
      · simp [numsTo, h3, show ¬ i < k + 1 by omega]
theorem numsTo_done (l : List UInt8) : numsTo l (l.length / 2) (l.length / 2) = ((numsN l).map b16).toArray := by
  unfold numsTo
  congr 1
  refine List.ext_getElem (by simp [length_numsN]) fun i h1 h2 => ?_
  simp at h1 h2
  simp [h1, List.getD, h2]

theorem numbers_any (a : Option Addr) (n c : Nat) (l : List UInt8) (w : World) (hS : Sl b8 w w.heap.size a n c l) (hn : n ≤ 1000000) :
    Calls Try.prog 73 #[.slice a n c] w (Fresh b16 (numsN l) w) := by
  obtain ⟨i0, hi0, hz0, hz1, hz2⟩ := info_parts info16
  have HL := Lib.hid hS.len
  have HX := Lib.hid (And.intro hi0 (And.intro hz0 (And.intro hz1 hz2)))
  clear hi0 hz0 hz1 hz2
  go_enter Try.func73, Try.ntmps73
  go_wp2_with (refine wpList_make_row rfl (.tmp 7) (.tmp 7) 26 rfl 29 i0 (.int .u16 0) 2 Try.underlying26 HX.out.1 HX.out.2.1 HX.out.2.2.1 HX.out.2.2.2 rfl .i64 .i64 _ _ (n / 2) (n / 2) rfl rfl ?c1 ?c2 (Nat.le_refl _) ?c3 ?c4 ?_)
  case c1 => omega
  case c2 => omega
  case c3 => omega
  case c4 => omega
  intro w1 h1 hb1 hs1
  have hr := h1.out
  rw [numsTo_zero l] at hr
  have H1 := Lib.hid hr
  clear hr h1 hs1
  go_wp2
  go_loopw [0, 11] (fun v i wr => ∃ k a' c', k ≤ n / 2 ∧ i = .int .i64 (k : Int) ∧ v = .slice a' (n - 2 * k) c' ∧ Sl b8 w w.heap.size a' (n - 2 * k) c' (l.drop (2 * k)) ∧ Below w.heap.size w wr ∧ wr.heap[w.heap.size]? = some (.cells (numsTo l (n / 2) k) 29 (0, 0))) (fun _ i _ => n / 2 - (intOf i).toNat)
  case atStart => exact ⟨0, a, c, by omega, rfl, rfl, hS, hb1, H1.out⟩
  case round =>
    obtain ⟨k, a', c', hk, rfl, rfl, hs, hb, hg⟩ := hrel
    clear hb1 H1
    by_cases hlt : k < n / 2
    · have ht : decide ((k : Int) < (n : Int) / 2) = true := by simp; omega
      have hl := HL.out
      have hcell := (cell_of_row _ _ k _ _ _ hg).trans (numsTo_at l hlt).choose_spec
      have hfz := frozen_of_row _ _ k _ _ hg
      have hst := heap_setCell_same _ _ k _ _ (b16 (at16 (l.drop (2 * k)) 0)) hg
      rw [numsTo_next l (by omega)] at hst
      have hd : (l.drop (2 * k)).drop 2 = l.drop (2 * (k + 1)) := by rw [List.drop_drop]; congr 1
      have hlen : (l.drop (2 * (k + 1))).length = n - 2 * (k + 1) := by rw [List.length_drop, hl]
      have HG := Lib.hid (And.intro hd (And.intro hlen hst))
      have hs2 := hs.below hb (Nat.le_refl _)
      clear hs hg hS hl hst hd hlen
      go_wp2_with fail
      refine (take_any _ _ _ _ _ _ hs2).mono ?_
      rintro e w2 ⟨a2, c2, q, rfl, hs3, rfl⟩
      rw [HG.out.1] at hs3 ⊢
      rw [HG.out.2.1] at hs3 ⊢
      have hs4 : Sl b8 w w.heap.size a2 (n - 2 * (k + 1)) c2 (l.drop (2 * (k + 1))) := hs3.keep fun p hp => (hb.cell hp).symm
      have HS4 := Lib.hid hs4
      have hb4 := below_drawn hb q
      clear hs3 hs2 hs4 hb
      generalize at16 (l.drop (2 * k)) 0 = x at *
      have hcell2 : (wr.drewN q).cell? ⟨w.heap.size, k, none⟩ = _ := hcell
      have hfz2 : (wr.drewN q).frozen? ⟨w.heap.size, k, none⟩ = _ := hfz
      clear hcell hfz
      go_wp2
      go_roundw
      case rel => exact ⟨k + 1, a2, c2, by omega, by go_num, rfl, HS4.out, hb4.setCell (Nat.le_refl _) _, HG.out.2.2⟩
      case measure => simp [intOf]; omega
    · obtain rfl : k = n / 2 := by omega
      have ht : decide ((((n / 2 : Nat) : Int)) < (n : Int) / 2) = false := by simp
      have HH := Lib.hid hg
      clear hs hg hS
      go_wp2
      go_ret
      have h := HH.out
      have hl := HL.out
      rw [← hl, numsTo_done] at h
      have h2 := own_of_row (w := wr) (g := w.heap.size) (e := 29) (cs := (numsN l).map b16) h (n := n / 2) (by simp [length_numsN, hl]) (by simp [length_numsN, hl]; unfold maxLen; omega) (base := w.heap.size) (Nat.le_refl _)
      have h3 : ((numsN l).map b16).length = n / 2 := by simp [length_numsN, hl]
      rw [h3, List.take_of_length_le (by omega)] at h2
      exact Fresh.of_own h2 (Nat.le_refl _) hb
end Go.Proofs.Ytamdpinfbadflaa.AskW
