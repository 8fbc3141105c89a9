/- Sums: of one byte more, and of bytes, by the program and by the document's own answer; and their two halves. -/
import Derived.Test.YtiecncnmmecjcaaCrcNext
import Derived.Test.YtiecncnmmecjcaaMem
open Go.RowKit
namespace Go.Proofs.Ytiecncnmmecjcaa.CrcW
open CrcM Mem

theorem next_any (g : Nat) (n m : Int) (h0 : 0 ≤ n) (h1 : n < 65536) (h2 : 0 ≤ m) (h3 : m < 256) (w : World) (hg : w.heap[g]? = some (.cells tab 117 (0, 0))) :
    Calls Try.prog 88 #[.pointer (some ⟨g, 0, none⟩), .int .u16 n, .int .u8 m] w fun e w' => e = .returned (.int .u16 (nextN n.toNat m.toNat)) ∧ w = w' := by
  obtain ⟨s, rfl⟩ := Int.eq_ofNat_of_zero_le h0
  obtain ⟨c, rfl⟩ := Int.eq_ofNat_of_zero_le h2
  exact next_nat g s c (by omega) (by omega) w hg

theorem zeros_new (w : World) : (w.alloc (.cells #[.int .u16 0, .int .u16 0, .int .u16 0, .int .u16 0, .int .u16 0, .int .u16 0, .int .u16 0, .int .u16 0, .int .u16 0, .int .u16 0, .int .u16 0, .int .u16 0, .int .u16 0, .int .u16 0, .int .u16 0, .int .u16 0] 117)).heap[w.heap.size]? = some (.cells (tabTo 0) 117 (0, 0)) := by
  rw [tabTo_zero]; exact heap_alloc_new w _

def tabIn (w : World) : World := (w.alloc (.cells #[.int .u16 0, .int .u16 0, .int .u16 0, .int .u16 0, .int .u16 0, .int .u16 0, .int .u16 0, .int .u16 0, .int .u16 0, .int .u16 0, .int .u16 0, .int .u16 0, .int .u16 0, .int .u16 0, .int .u16 0, .int .u16 0] 117)).setRow w.heap.size tab
theorem tabIn_there (w : World) : (tabIn w).heap[w.heap.size]? = some (.cells tab 117 (0, 0)) := setRow_heap _ _ _ _ _ _ (zeros_new w)
theorem tabIn_below (w : World) : Below w.heap.size w (tabIn w) := below_setRow ((Below.refl _ _).alloc (Nat.le_refl _) _) (Nat.le_refl _) _

theorem Sum_any (a : Option Addr) (n c : Nat) (l : List UInt8) (w : World) (hl : Sl b8 w w.heap.size a n c l) :
    Calls Try.prog 84 #[.slice a n c] w (Says (.int .u16 (sumN l)) w) := by
  have hn : n ≤ 9223372036854775807 := by have h1 := hl.nle; have h2 := hl.cle; unfold maxLen at h2; omega
  go_enter Try.func84, Try.ntmps84
  go_wp2_with fail
  refine (table_any _).mono ?_
  rintro e w1 ⟨rfl, hb1⟩
  go_wp2_with (refine wpList_store_row rfl 117 (.tmp 3) (.tmp 7) rfl w1.heap.size tab rfl rfl 117 (tabTo 0) (zeros_new w1) (by kernel_rfl) (by kernel_rfl) (by kernel_rfl) ?_)
  have hT := tabIn_there w1
  have hB := hb1.trans ((tabIn_below w1).mono hb1.size)
  change Code.wp _ _ _ _ (tabIn w1)
  generalize tabIn w1 = W at *
  clear hb1
  generalize w1.heap.size = g at *
  have hL := hl.below hB (Nat.le_refl _)
  go_loop [4, 10] (fun s i => ∃ k : Nat, k ≤ n ∧ i = .int .i64 k ∧ s = .int .u16 (sumN (l.take k))) (fun _ i => n - (intOf i).toNat)
  case atStart => exact ⟨0, by omega, rfl, rfl⟩
  case round =>
    obtain ⟨k, hk, rfl, rfl⟩ := hrel
    have hs := sumN_lt (l.take k)
    by_cases hlt : k < n
    · obtain ⟨b, off, x, rfl, hbk, hx, hcell⟩ := hL.at_ hlt
      have HS := Lib.hid (sumFrom_take 65535 l hx)
      have hx8 := x.toNat_lt
      generalize hS : sumN (l.take k) = S at *
      have HS2 := Lib.hid hS
      clear hS hx hl hL
      have hb : decide ((k : Int) < (n : Int)) = true := by simp; omega
      go_wp2_with (go_at_call 88; refine (next_any g _ _ (by omega) (by omega) (by omega) (by omega) _ hT).mono ?_; rintro e w2 ⟨rfl, rfl⟩)
      go_round
      case rel => exact ⟨k + 1, by omega, by go_num, by rw [sumN, HS.out, ← HS2.out]; rfl⟩
      case measure => simp [intOf]; omega
    · obtain rfl : k = n := by omega
      clear hl
      have hb : decide ((k : Int) < (k : Int)) = false := by simp
      go_wp2
      go_ret
      rw [List.take_of_length_le (by rw [hL.len]; exact Nat.le_refl _)]
      exact Says.mk hB
end Go.Proofs.Ytiecncnmmecjcaa.CrcW
