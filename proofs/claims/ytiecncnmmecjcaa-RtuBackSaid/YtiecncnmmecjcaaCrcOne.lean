/- The calls of package crc that make nothing but a table: one bit, the table, one byte more. -/
import Derived.Test.YtiecncnmmecjcaaRows
import Derived.Test.YtiecncnmmecjcaaCrcMath
import Derived.WalkKit
import Derived.WalkSpells
import Derived.Below
open Go.RowKit
namespace Go.Proofs.Ytiecncnmmecjcaa.CrcW
open CrcM

theorem u16_and1 (s : Nat) (h : s < 65536) : bits .and .u16 (s : Int) 1 = ((s % 2 : Nat) : Int) := by
  have h1 := u16_and_nat s 1 h (by omega)
  rw [Nat.and_one_is_mod] at h1
  exact h1
theorem u16_poly (s : Nat) (h : s < 65536) : bits .xor .u16 ((s : Int) / 2) 40961 = ((s / 2 ^^^ 40961 : Nat) : Int) := by
  have h1 := u16_xor_nat (s / 2) 40961 (by omega) (by omega)
  rw [← h1]
  simp

theorem shift_odd (s : Nat) (h : s < 65536) (h2 : s % 2 = 1) (w : World) :
    Calls Try.prog 90 #[.int .u16 s] w fun e w' => e = .returned (.int .u16 (crc1 s)) ∧ w = w' := by
  have ha := u16_and1 s h
  have hp := u16_poly s h
  have hc : crc1 s = s / 2 ^^^ 40961 := by unfold crc1; rw [if_pos h2]
  rw [h2] at ha
  rw [hc, ← hp]
  clear hc hp
  go_enter Try.func90, Try.ntmps90
  go_wp2
  go_ret
  exact ⟨rfl, rfl⟩
theorem shift_even (s : Nat) (h : s < 65536) (h2 : s % 2 = 0) (w : World) :
    Calls Try.prog 90 #[.int .u16 s] w fun e w' => e = .returned (.int .u16 (crc1 s)) ∧ w = w' := by
  have ha := u16_and1 s h
  have hc : crc1 s = s / 2 := by unfold crc1; rw [if_neg (by omega)]; simp
  rw [h2] at ha
  rw [hc]
  clear hc
  go_enter Try.func90, Try.ntmps90
  go_wp2
  go_ret
  exact ⟨rfl, rfl⟩
theorem shift_any (n : Int) (h0 : 0 ≤ n) (h : n < 65536) (w : World) :
    Calls Try.prog 90 #[.int .u16 n] w fun e w' => e = .returned (.int .u16 (crc1 n.toNat)) ∧ w = w' := by
  obtain ⟨s, rfl⟩ := Int.eq_ofNat_of_zero_le h0
  rcases Nat.mod_two_eq_zero_or_one s with h2 | h2
  · exact shift_even s (by omega) h2 w
  · exact shift_odd s (by omega) h2 w
end Go.Proofs.Ytiecncnmmecjcaa.CrcW
