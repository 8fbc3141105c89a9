/- The chapter's examples; what a law's own raw sum is. -/
import Derived.Test.YtbiecnopgaghbaaSumRegs
import Derived.Lib.SlBytesConst
open Go.RowKit
namespace Go.Proofs.Ytbiecnopgaghbaa.SumW
open AskM (hi lo toNat_hi toNat_lo putN putN_append)
open SumM Mem

theorem ex1 : bytesN [49, 50, 51, 52, 53, 54, 55, 56, 57] = 3421780262 := by decide +kernel
theorem ex2 : bytesN [] = 0 := by decide +kernel
theorem ex3 : bytesN (putN [12594, 13108]) = 2615402659 := by decide +kernel
theorem ex4 : bytesN [49, 50, 51, 52] = 2615402659 := by decide +kernel

def two3 : List UInt16 := [12594, 13108]
theorem two3_cells : #[Value.int .u16 12594, Value.int .u16 13108].toList = two3.map b16 := by kernel_rfl
/-- A slice just built, at an address that is told otherwise. -/
theorem new_at {α : Type} {f : α → Value} (w : World) (cs : Array Value) (e : TypeId) (fr : Nat × Nat) (l : List α) (n g : Nat) (hg : w.heap.size = g) (hcs : cs.toList = l.map f) (hn : l.length = n) (hm : n ≤ 1000000) :
    Sl f (w.alloc (.cells cs e fr)) (w.alloc (.cells cs e fr)).heap.size (some ⟨g, 0, none⟩) n n l := by
  subst hg
  exact Sl.new w cs e fr l n hcs hn hm
theorem ex5 : bytesN (putN two3) = 2615402659 := ex3
theorem Bytes_new (a : Option Addr) (n c : Nat) (l : List UInt8) (w : World) (hL : Sl b8 w w.heap.size a n c l) :
    Calls Try.prog 11 #[.slice a n c] w (Tells (.int .u32 (bytesN l)) w) := Bytes_any a n c l _ w hL

set_option maxHeartbeats 1000000 in
set_option maxRecDepth 100000 in
theorem awake_any (w : World) :
    Calls Try.prog 8 #[] w (Says (.bool true) w) := by
  have kc := fun (w : World) (C : Array Value) (n c : Nat) => Lib.run_convert_bytes_const (P := Try.prog) w 23 5 C n c Try.underlying23 Try.underlying5
  go_enter Try.func8, Try.ntmps8
  go_wp2_with fail
  refine (Bytes_new _ 9 9 [49, 50, 51, 52, 53, 54, 55, 56, 57] _ (Sl.new _ _ _ _ _ _ rfl rfl (by omega))).mono ?_
  rw [ex1]
  rintro e w1 ⟨rfl, rfl⟩
  go_wp2_with fail
  refine (Bytes_any none 0 0 [] 0 _ Sl.none_).mono ?_
  rw [ex2]
  rintro e w1 ⟨rfl, rfl⟩
  go_wp2_with fail
  refine (Words_any _ 2 2 two3 _ (new_at _ _ _ _ _ _ _ (by simp) two3_cells rfl (by omega)) (by omega)).mono ?_
  rw [ex5]
  rintro e w1 ⟨rfl, b1⟩
  have B1 : Below w.heap.size w w1 := below_next ((Below.refl w.heap.size w).alloc (Nat.le_refl _) _) (by simp) b1
  clear b1
  go_wp2_with fail
  refine (Bytes_new _ 4 4 [49, 50, 51, 52] _ (new_at _ _ _ _ _ _ _ (by first | rfl | simp) rfl rfl (by omega))).mono ?_
  rw [ex4]
  rintro e w2 ⟨rfl, h2⟩
  have B2 : Below w.heap.size w w2 := h2 ▸ B1.alloc B1.size _
  clear h2
  go_wp2_with fail
  refine (Bytes_new _ 4 4 [49, 50, 51, 52] _ (new_at _ _ _ _ _ _ _ (by first | rfl | simp) rfl rfl (by omega))).mono ?_
  rw [ex4]
  rintro e w2 ⟨rfl, rfl⟩
  clear kc
  go_wp2
  go_ret
  exact Says.mk (B2.alloc B2.size _)

theorem raw_any (s : Nat) (hs : s < 4294967296) (a : Option Addr) (n c : Nat) (l : List UInt8) (B : Nat) (w : World) (hL : Sl b8 w B a n c l) :
    Calls Try.prog 17 #[.int .u32 (s : Int), .slice a n c] w (Tells (.int .u32 (rawN s l)) w) := by
  have hn : n ≤ 9223372036854775807 := by have h1 := hL.nle; have h2 := hL.cle; unfold maxLen at h2; omega
  go_enter Try.func17, Try.ntmps17
  go_wp2
  go_loop [0, 9] (fun t i => ∃ k : Nat, k ≤ n ∧ i = .int .i64 k ∧ t = .int .u32 (rawN s (l.take k))) (fun _ i => n - (intOf i).toNat)
  case atStart => exact ⟨0, by omega, rfl, rfl⟩
  case round =>
    obtain ⟨k, hk, rfl, rfl⟩ := hrel
    have hs1 := rawN_lt (l.take k) hs
    by_cases hlt : k < n
    · obtain ⟨b, off, x, rfl, hbk, hx, hcell⟩ := hL.at_ hlt
      have HS := Lib.hid (rawN_take s l hx)
      have hx8 := x.toNat_lt
      generalize hS : rawN s (l.take k) = S at *
      clear hS hx hL
      have hb : decide ((k : Int) < (n : Int)) = true := by simp; omega
      go_wp2_with (go_at_call 9; refine (Add_any _ _ (by omega) (by omega) (by omega) (by omega) _).mono ?_; rintro e w2 ⟨rfl, rfl⟩)
      go_round
      case rel => exact ⟨k + 1, by omega, by go_num, by rw [HS.out]⟩
      case measure => simp [intOf]; omega
    · obtain rfl : k = n := by omega
      have hb : decide ((k : Int) < (k : Int)) = false := by simp
      rw [List.take_of_length_le (by rw [hL.len]; exact Nat.le_refl _)]
      clear hL hs1
      go_wp2
      go_ret
      exact ⟨rfl, rfl⟩
end Go.Proofs.Ytbiecnopgaghbaa.SumW
