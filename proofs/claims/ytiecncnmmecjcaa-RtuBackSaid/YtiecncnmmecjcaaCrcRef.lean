/- The document's own answer: one byte more, bit by bit, and sums; halves; whether bytes are the same. -/
import Derived.Test.YtiecncnmmecjcaaCrcSum
import Derived.Laws.BytesArg
open Go.RowKit
namespace Go.Proofs.Ytiecncnmmecjcaa.CrcW
open CrcM Mem

theorem crc1s_8 (x : Nat) : crc1s 8 x = crc4 (crc4 x) := rfl

set_option maxHeartbeats 400000 in
theorem refNext_nat (s c : Nat) (hs : s < 65536) (hc : c < 256) (w : World) :
    Calls Try.prog 89 #[.int .u16 s, .int .u8 c] w fun e w' => e = .returned (.int .u16 (nextN s c)) ∧ w = w' := by
  have hx := u16_in s c hs (by omega)
  go_enter Try.func89, Try.ntmps89
  go_wp2
  clear hx
  go_loop [0, 5] (fun t i => ∃ j : Nat, j ≤ 8 ∧ i = .int .i64 j ∧ t = .int .u16 (crc1s j (s ^^^ c))) (fun _ i => 8 - (intOf i).toNat)
  case atStart => exact ⟨0, by omega, rfl, rfl⟩
  case round =>
    obtain ⟨j, hj, rfl, rfl⟩ := hrel
    have hlt := crc1s_lt j (s := s ^^^ c) (xor_lt hs (by omega))
    by_cases hl : j < 8
    · have HF := Lib.hid (show crc1 (crc1s j (s ^^^ c)) = crc1s (j + 1) (s ^^^ c) from rfl)
      generalize crc1s j (s ^^^ c) = x at *
      have hp := u16_poly x hlt
      rcases Nat.mod_two_eq_zero_or_one x with h2 | h2
      · have hc1 : crc1 x = x / 2 := by unfold crc1; rw [if_neg (by omega)]; simp
        have HC := Lib.hid hc1
        have hm : ((x : Int) % 2 == 1) = false := by simp; omega
        clear hc1 hp h2
        go_wp2
        go_round
        case rel => exact ⟨j + 1, by omega, by go_num, by rw [← HF.out, HC.out]; simp⟩
        case measure => simp [intOf]; omega
      · have hc1 : crc1 x = x / 2 ^^^ 40961 := by unfold crc1; rw [if_pos h2]
        have HC := Lib.hid hc1
        have hm : ((x : Int) % 2 == 1) = true := by simp; omega
        clear hc1 h2
        go_wp2
        go_round
        case rel => exact ⟨j + 1, by omega, by go_num, by rw [← HF.out, HC.out]⟩
        case measure => simp [intOf]; omega
    · obtain rfl : j = 8 := by omega
      go_wp2
      go_ret
      exact ⟨rfl, rfl⟩
theorem refNext_any (n m : Int) (h0 : 0 ≤ n) (h1 : n < 65536) (h2 : 0 ≤ m) (h3 : m < 256) (w : World) :
    Calls Try.prog 89 #[.int .u16 n, .int .u8 m] w fun e w' => e = .returned (.int .u16 (nextN n.toNat m.toNat)) ∧ w = w' := by
  obtain ⟨s, rfl⟩ := Int.eq_ofNat_of_zero_le h0
  obtain ⟨c, rfl⟩ := Int.eq_ofNat_of_zero_le h2
  exact refNext_nat s c (by omega) (by omega) w

theorem refSum_any (B : Nat) (a : Option Addr) (n c : Nat) (l : List UInt8) (w : World) (hL : Sl b8 w B a n c l) :
    Calls Try.prog 85 #[.slice a n c] w fun e w' => e = .returned (.int .u16 (sumN l)) ∧ w = w' := by
  have hn : n ≤ 9223372036854775807 := by have h1 := hL.nle; have h2 := hL.cle; unfold maxLen at h2; omega
  go_enter Try.func85, Try.ntmps85
  go_wp2
  go_loop [3, 4] (fun s i => ∃ k : Nat, k ≤ n ∧ i = .int .i64 k ∧ s = .int .u16 (sumN (l.take k))) (fun _ i => n - (intOf i).toNat)
  case atStart => exact ⟨0, by omega, rfl, rfl⟩
  case round =>
    obtain ⟨k, hk, rfl, rfl⟩ := hrel
    have hs := sumN_lt (l.take k)
    by_cases hlt : k < n
    · obtain ⟨b, off, x, rfl, hbk, hx, hcell⟩ := hL.at_ hlt
      have HS := Lib.hid (sumFrom_take 65535 l hx)
      have hx8 := x.toNat_lt
      generalize hS : sumN (l.take k) = S at *
      have HS2 := Lib.hid hS
      clear hS hx hL
      have hb : decide ((k : Int) < (n : Int)) = true := by simp; omega
      go_wp2_with (go_at_call 89; refine (refNext_any _ _ (by omega) (by omega) (by omega) (by omega) _).mono ?_; rintro e w2 ⟨rfl, rfl⟩)
      go_round
      case rel => exact ⟨k + 1, by omega, by go_num, by rw [sumN, HS.out, ← HS2.out]; rfl⟩
      case measure => simp [intOf]; omega
    · obtain rfl : k = n := by omega
      have hb : decide ((k : Int) < (k : Int)) = false := by simp
      go_wp2
      go_ret
      rw [List.take_of_length_le (by rw [hL.len]; exact Nat.le_refl _)]
      exact ⟨rfl, rfl⟩

theorem halves_any (n : Int) (h0 : 0 ≤ n) (h : n < 65536) (w : World) :
    Calls Try.prog 83 #[.int .u16 n] w fun e w' => e = .returned (.tuple #[.int .u8 (n % 256), .int .u8 (n / 256)]) ∧ w = w' := by
  go_enter Try.func83, Try.ntmps83
  go_wp2
  go_ret2
  exact ⟨rfl, rfl⟩

theorem Same_any (A B : Nat) (a b : Option Addr) (n c m d : Nat) (l k : List UInt8) (w : World) (hA : Sl b8 w A a n c l) (hB : Sl b8 w B b m d k) :
    Calls Try.prog 19 #[.slice a n c, .slice b m d] w fun e w' => e = .returned (.bool (decide (l = k))) ∧ w = w' := by
  have t1 := hA.text (P := Try.prog) Try.underlying27 Try.underlying5 Try.underlying9
  have t2 := hB.text (P := Try.prog) Try.underlying27 Try.underlying5 Try.underlying9
  go_enter Try.func19, Try.ntmps19
  go_wp2
  go_ret
  have h : ((str l).toList == (str k).toList) = decide (l = k) := by
    rw [Bool.eq_iff_iff]
    simp [str]
  exact ⟨by rw [← h]; rfl, rfl⟩
end Go.Proofs.Ytiecncnmmecjcaa.CrcW
