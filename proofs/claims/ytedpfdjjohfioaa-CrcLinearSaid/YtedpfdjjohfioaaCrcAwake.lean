/- The chapter's examples. -/
import Derived.Test.YtedpfdjjohfioaaCrcRefCut
import Derived.Lib.SlBytesConst
open Go.RowKit
namespace Go.Proofs.Ytedpfdjjohfioaa.CrcW
open CrcM Mem

theorem cut1 : cutN [2, 7, 65, 18] = (0, [2, 7]) := by decide +kernel
theorem cut2 : cutN [2, 7, 65, 19] = (11, []) := by decide +kernel
theorem cut3 : cutN [2] = (10, []) := by decide +kernel
theorem sum0 : sumN [] = 65535 := by decide +kernel
theorem sum1 : sumN [2, 7] = 4673 := by decide +kernel
theorem put1 : putN [2, 7] = [2, 7, 65, 18] := by decide +kernel
theorem sum2 : sumN [49, 50, 51, 52, 53, 54, 55, 56, 57] = 19255 := by decide +kernel

set_option maxHeartbeats 1000000 in
theorem awake_any (w : World) :
    Calls Try.prog 7 #[] w (Says (.bool true) w) := by
  go_enter Try.func7, Try.ntmps7
  go_wp2_with fail
  refine (Cut_any _ 4 4 [2, 7, 65, 18] _ (Sl.new _ _ _ _ _ _ rfl rfl (by omega)) (by omega)).mono ?_
  rw [cut1]
  rintro e w1 ⟨a1, c1, rfl, s1, b1⟩
  have B1 := below_next (Below.refl w.heap.size w) (Nat.le_refl _) b1
  have Z1 := B1.size
  clear b1
  go_wp2_with fail
  refine (Cut_any _ 4 4 [2, 7, 65, 19] _ (Sl.new _ _ _ _ _ _ rfl rfl (by omega)) (by omega)).mono ?_
  rw [cut2]
  rintro e w2 ⟨a2, c2, rfl, s2, b2⟩
  have S1 := s1.next (Nat.le_refl _) b2
  have B2 := below_next B1 Z1 b2
  have Z2 := B2.size
  have Z2' : w1.heap.size ≤ w2.heap.size := by have := b2.size; simp at this; omega
  clear b2 s1 B1 s2
  go_wp2_with fail
  refine (Cut_any _ 1 1 [2] _ (Sl.new _ _ _ _ _ _ rfl rfl (by omega)) (by omega)).mono ?_
  rw [cut3]
  rintro e w3 ⟨a3, c3, rfl, s3, b3⟩
  have S3 := S1.next Z2' b3
  have B3 := below_next B2 Z2 b3
  have Z3 := B3.size
  have Y3 : w1.heap.size ≤ w3.heap.size := by have := b3.size; simp at this; omega
  clear b3 S1 B2 s3
  go_wp2_with fail
  refine (Sum_any none 0 0 [] _ Sl.none_).mono ?_
  rw [sum0]
  rintro e w4 ⟨rfl, b4⟩
  have S4 := S3.below b4 Y3
  have B4 := B3.trans (b4.mono Z3)
  have Z4 := B4.size
  have Y4 : w1.heap.size ≤ w4.heap.size := by have := b4.size; omega
  clear b4 S3 B3
  go_wp2_with fail
  refine (Sum_any _ 2 2 [2, 7] _ (Sl.new _ _ _ _ _ _ rfl rfl (by omega))).mono ?_
  rw [sum1]
  rintro e w5 ⟨rfl, b5⟩
  have S5 := S4.next Y4 b5
  have B5 := below_next B4 Z4 b5
  have Z5 := B5.size
  have Y5 : w1.heap.size ≤ w5.heap.size := by have := b5.size; simp at this; omega
  clear b5 S4 B4
  go_wp2_with fail
  refine (Put_any _ 2 2 [2, 7] _ (Sl.new _ _ _ _ _ _ rfl rfl (by omega)) (by omega)).mono ?_
  rw [put1]
  rintro e w6 ⟨a6, c6, rfl, s6, b6⟩
  have S6 := S5.next Y5 b6
  have B6 := below_next B5 Z5 b6
  have Z6 := B6.size
  have Y6 : w1.heap.size ≤ w6.heap.size := by have := b6.size; simp at this; omega
  clear b6 S5 B5
  go_wp2_with fail
  refine (Same_any _ _ _ _ 4 c6 4 4 [2, 7, 65, 18] [2, 7, 65, 18] (w6.alloc (.cells #[.int .u8 2, .int .u8 7, .int .u8 65, .int .u8 18] 5)) (s6.alloc (Nat.le_refl _) _) (Sl.new _ _ _ _ _ _ rfl rfl (by omega))).mono ?_
  rintro e w7 ⟨rfl, rfl⟩
  have S7 := S6.alloc Y6 (.cells #[.int .u8 2, .int .u8 7, .int .u8 65, .int .u8 18] 5)
  have B7 := B6.alloc Z6 (.cells #[.int .u8 2, .int .u8 7, .int .u8 65, .int .u8 18] 5)
  have Z7 := B7.size
  have Y7 : w1.heap.size ≤ (w6.alloc (.cells #[.int .u8 2, .int .u8 7, .int .u8 65, .int .u8 18] 5)).heap.size := by simp; omega
  clear S6 B6 s6
  generalize (w6.alloc (.cells #[.int .u8 2, .int .u8 7, .int .u8 65, .int .u8 18] 5)) = w7 at *
  have kc := fun (w : World) (C : Array Value) (n c : Nat) => Lib.run_convert_bytes_const (P := Try.prog) w 22 5 C n c Try.underlying22 Try.underlying5
  go_wp2_with fail
  clear kc
  refine (Sum_any _ 9 9 [49, 50, 51, 52, 53, 54, 55, 56, 57] _ (Sl.new _ _ _ _ _ _ rfl rfl (by omega))).mono ?_
  rw [sum2]
  rintro e w8 ⟨rfl, b8'⟩
  have S8 := S7.next Y7 b8'
  have B8 := below_next B7 Z7 b8'
  have Z8 := B8.size
  have Y8 : w1.heap.size ≤ w8.heap.size := by have := b8'.size; simp at this; omega
  clear b8' S7 B7
  go_wp2_with fail
  refine (Same_any _ _ _ _ 2 c1 2 2 [2, 7] [2, 7] _ (S8.alloc Y8 _) (Sl.new _ _ _ _ _ _ rfl rfl (by omega))).mono ?_
  rintro e w9 ⟨rfl, rfl⟩
  go_wp2
  go_ret
  exact Says.mk (B8.alloc Z8 _)
end Go.Proofs.Ytedpfdjjohfioaa.CrcW
