/- The table of what becomes of each four bits. -/
import Derived.Test.YtiecncnmmecjcaaCrcOne
import Derived.Outline
import Derived.Laws.CopyOwn
import Derived.Lib.Hide
open Go.RowKit
namespace Go.Proofs.Ytiecncnmmecjcaa.CrcW
open CrcM

/-- The table's cells when the first k are filled. -/
def tabTo (k : Nat) : Array Value := ((List.range 16).map fun i => Value.int .u16 (if i < k then (crc4 i : Int) else 0)).toArray
def tab : Array Value := tabTo 16
theorem tabTo_zero : tabTo 0 = #[.int .u16 0, .int .u16 0, .int .u16 0, .int .u16 0, .int .u16 0, .int .u16 0, .int .u16 0, .int .u16 0, .int .u16 0, .int .u16 0, .int .u16 0, .int .u16 0, .int .u16 0, .int .u16 0, .int .u16 0, .int .u16 0] := by rfl
theorem tabTo_size (k : Nat) : (tabTo k).size = 16 := by simp [tabTo]
theorem tabTo_at (k i : Nat) (h : i < 16) : (tabTo k)[i]? = some (.int .u16 (if i < k then (crc4 i : Int) else 0)) := by
  simp [tabTo, h]
theorem tab_at (i : Nat) (h : i < 16) : tab[i]? = some (.int .u16 (crc4 i : Int)) := by
  have := tabTo_at 16 i h
  rwa [if_pos h] at this
theorem tabTo_succ (k : Nat) (h : k < 16) : (tabTo k).setIfInBounds k (.int .u16 (crc4 k : Int)) = tabTo (k + 1) := by
  apply Array.ext_getElem?
  intro i
  by_cases hi : i < 16
  · rw [tabTo_at _ i hi, Array.getElem?_setIfInBounds]
    by_cases e : k = i
    · subst e
      rw [if_pos rfl, if_pos (by rw [tabTo_size]; exact h), if_pos (by omega)]
    · rw [if_neg e, tabTo_at _ i hi]
      by_cases hk : i < k
      · rw [if_pos hk, if_pos (by omega)]
      · rw [if_neg hk, if_neg (by omega)]
  · rw [Array.getElem?_eq_none (by simp [tabTo_size]; omega), Array.getElem?_eq_none (by rw [tabTo_size]; omega)]

def crc1s : Nat → Nat → Nat
  | 0, s => s
  | k + 1, s => crc1 (crc1s k s)
theorem crc1s_lt (k : Nat) {s : Nat} (h : s < 65536) : crc1s k s < 65536 := by
  induction k with
  | zero => exact h
  | succ k ih => exact crc1_lt ih

/-- What holds of the world in the table's loop: the answer's block is as it was made, the table's has its first k cells filled. -/
def TabW (w wr : World) (k : Nat) : Prop :=
  Below w.heap.size w wr ∧ wr.heap[w.heap.size]? = some (.cells (tabTo 0) 117 (0, 0)) ∧ wr.heap[w.heap.size + 1]? = some (.cells (tabTo k) 117 (0, 0))
theorem TabW.start (w : World) : TabW w ((w.alloc (.cells (tabTo 0) 117)).alloc (.cells (tabTo 0) 117)) 0 :=
  ⟨((Below.refl _ _).alloc (Nat.le_refl _) _).alloc (by simp) _, heap_alloc2_old w _ _, heap_alloc2_new w _ _⟩
theorem TabW.store {w wr : World} {k : Nat} (h : TabW w wr k) (hk : k < 16) : TabW w (wr.setCell ⟨w.heap.size + 1, k, none⟩ (.int .u16 (crc4 k : Int))) (k + 1) :=
  ⟨h.1.setCell (by simp) _, by rw [heap_setCell_other _ _ _ _ (by simp)]; exact h.2.1, by rw [heap_setCell_same _ _ _ _ _ _ h.2.2, tabTo_succ k hk]⟩
theorem TabW.cell {w wr : World} {k : Nat} (h : TabW w wr k) (hk : k < 16) : wr.cell? ⟨w.heap.size + 1, k, none⟩ = some (.int .u16 0) := by
  rw [cell_of_row _ _ _ _ _ _ h.2.2, tabTo_at _ _ hk, if_neg (by omega)]

set_option maxHeartbeats 400000 in
theorem table_any (w : World) :
    Calls Try.prog 87 #[] w fun e w' => e = .returned (.agg tab) ∧ Below w.heap.size w w' := by
  have h0 := TabW.start w
  rw [tabTo_zero] at h0
  have H0 := Lib.hid h0
  clear h0
  go_enter Try.func87, Try.ntmps87
  go_wp2
  go_loopw [4] (fun c wr => ∃ k : Nat, k ≤ 16 ∧ c = .int .u16 k ∧ TabW w wr k) (fun c _ => 16 - (intOf c).toNat)
  case atStart => exact ⟨0, by omega, rfl, H0.out⟩
  case round =>
    obtain ⟨k, hk, rfl, hr⟩ := hrel
    by_cases hlt : k < 16
    · clear H0
      have hb : decide ((k : Int) < 16) = true := by simp; omega
      go_wp2
      obtain ⟨wo, rfl⟩ : ∃ wo : World, wo = wr := ⟨_, rfl⟩
      go_loop [3, 8] (fun s c => ∃ j : Nat, j ≤ 4 ∧ c = .int .i64 j ∧ s = .int .u16 (crc1s j k)) (fun _ c => 4 - (intOf c).toNat)
      case atStart => exact ⟨0, by omega, rfl, rfl⟩
      case round =>
        obtain ⟨j, hj, rfl, rfl⟩ := hrel
        have hs := crc1s_lt j (s := k) (by omega)
        by_cases hl : j < 4
        · go_wp2_with (go_at_call 90; refine (shift_any _ (by omega) (by omega) _).mono ?_; rintro e w' ⟨rfl, rfl⟩)
          go_round
          case rel => exact ⟨j + 1, by omega, by go_num, rfl⟩
          case measure => simp [intOf]; omega
        · obtain rfl : j = 4 := by omega
          have hcell := hr.cell hlt
          have hfz := frozen_of_row _ _ k _ _ hr.2.2
          have hst := Lib.hid (hr.store hlt)
          go_wp2
          go_roundw
          case rel => exact ⟨k + 1, by omega, by go_num, hst.out⟩
          case measure => simp [intOf]; omega
    · obtain rfl : k = 16 := by omega
      go_wp2_with (first | (refine wpList_load_row rfl 117 (.tmp 1) rfl (w.heap.size + 1) rfl 117 tab (0, 0) _ hr.2.2 Try.underlying117 rfl (by kernel_rfl) ?_) | (refine wpList_store_row rfl 117 (.tmp 0) (.tmp 17) rfl w.heap.size tab rfl rfl 117 (tabTo 0) hr.2.1 (by kernel_rfl) (by kernel_rfl) (by kernel_rfl) ?_))
      exact bodyPost_ret (results_cell_row rfl _ _ w.heap.size 117 tab (0, 0) _ rfl (setRow_heap _ _ _ _ _ _ hr.2.1) Try.underlying117 rfl (by kernel_rfl)) rfl ⟨rfl, below_setRow hr.1 (Nat.le_refl _) _⟩
end Go.Proofs.Ytiecncnmmecjcaa.CrcW
