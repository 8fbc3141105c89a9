/- One byte more, by the table and bit by bit. -/
import Derived.Test.YtiecncnmmecjcaaCrcTab
open Go.RowKit
namespace Go.Proofs.Ytiecncnmmecjcaa.CrcW
open CrcM

def crc4s : Nat → Nat → Nat
  | 0, s => s
  | k + 1, s => crc4 (crc4s k s)
theorem crc4s_lt (k : Nat) {s : Nat} (h : s < 65536) : crc4s k s < 65536 := by
  induction k with
  | zero => exact h
  | succ k ih => exact crc4_lt ih
theorem u16_and15 (s : Nat) (h : s < 65536) : bits .and .u16 (s : Int) 15 = ((s % 16 : Nat) : Int) := by
  have h1 := u16_and_nat s 15 h (by omega)
  rw [show s &&& 15 = s % 16 from Nat.and_two_pow_sub_one_eq_mod s 4] at h1
  exact h1
theorem u16_four (s : Nat) (h : s < 65536) : bits .xor .u16 ((s : Int) / 16) ((crc4 (s % 16) : Nat) : Int) = ((crc4 s : Nat) : Int) := by
  have h1 := u16_xor_nat (s / 16) (crc4 (s % 16)) (by omega) (crc4_lt (by omega))
  rw [← crc4_split] at h1
  rw [← h1]
  simp
theorem u16_in (s c : Nat) (h : s < 65536) (hc : c < 65536) : bits .xor .u16 (s : Int) (c : Int) = ((s ^^^ c : Nat) : Int) := u16_xor_nat s c h hc

set_option maxHeartbeats 400000 in
theorem next_nat (g s c : Nat) (hs : s < 65536) (hc : c < 256) (w : World) (hg : w.heap[g]? = some (.cells tab 117 (0, 0))) :
    Calls Try.prog 88 #[.pointer (some ⟨g, 0, none⟩), .int .u16 s, .int .u8 c] w fun e w' => e = .returned (.int .u16 (nextN s c)) ∧ w = w' := by
  have hx := u16_in s c hs (by omega)
  go_enter Try.func88, Try.ntmps88
  go_wp2
  clear hx
  go_loop [1, 11] (fun t i => ∃ j : Nat, j ≤ 2 ∧ i = .int .i64 j ∧ t = .int .u16 (crc4s j (s ^^^ c))) (fun _ i => 2 - (intOf i).toNat)
  case atStart => exact ⟨0, by omega, rfl, rfl⟩
  case round =>
    obtain ⟨j, hj, rfl, rfl⟩ := hrel
    have hlt := crc4s_lt j (s := s ^^^ c) (xor_lt hs (by omega))
    by_cases hl : j < 2
    · have hfin : crc4 (crc4s j (s ^^^ c)) = crc4s (j + 1) (s ^^^ c) := rfl
      have HF := Lib.hid hfin
      clear hfin
      generalize crc4s j (s ^^^ c) = x at *
      have ha := u16_and15 x hlt
      have hb := u16_four x hlt
      have hcell : w.cell? ⟨g, x % 16, none⟩ = some (.int .u16 (crc4 (x % 16) : Int)) := by
        rw [cell_of_row _ _ _ _ _ _ hg]; exact tab_at _ (by omega)
      have h16 : x % 16 < 16 := by omega
      clear hg
      go_wp2
      go_round
      case rel => exact ⟨j + 1, by omega, by go_num, by rw [HF.out]⟩
      case measure => simp [intOf]; omega
    · obtain rfl : j = 2 := by omega
      go_wp2
      go_ret
      exact ⟨rfl, rfl⟩
end Go.Proofs.Ytiecncnmmecjcaa.CrcW
