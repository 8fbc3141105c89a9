/- Check sums of 32 bits: one byte more, and of bytes, by the program and by the document's own answer. -/
import Derived.Test.YtbiecnopgaghbaaChecked
import Derived.Test.YtbiecnopgaghbaaMem
import Derived.Test.YtbiecnopgaghbaaGrow
import Derived.Test.YtbiecnopgaghbaaSumReq
import Derived.Deep.QuietTactic
import Derived.BigQuiet
import Derived.Outline
import Derived.Laws.BitsAllLaws
open Go.RowKit
namespace Go.Proofs.Ytbiecnopgaghbaa.SumW
open SumM Mem

theorem info8 : (Try.prog.info? 5).map (fun i => (i.zero, i.size, i.bytes)) = some (some (.int .u8 0), 1, 1) := by kernel_rfl
theorem b8_one (x : UInt8) : (b8 x).oneCell' = true := rfl
/-- The call answers v; nothing is written. -/
def Tells (v : Value) (w : World) (e : Ending) (w' : World) : Prop := e = .returned v ∧ w = w'
theorem u32_and1 (s : Nat) (h : s < 4294967296) : bits .and .u32 (s : Int) 1 = ((s % 2 : Nat) : Int) := by
  have h1 := u32_and_nat s 1 h (by omega)
  rw [Nat.and_one_is_mod] at h1
  exact h1
theorem u32_poly (s : Nat) (h : s < 4294967296) : bits .xor .u32 ((s : Int) / 2) 3988292384 = ((s / 2 ^^^ 3988292384 : Nat) : Int) := by
  have h1 := u32_xor_nat (s / 2) 3988292384 (by omega) (by omega)
  rw [← h1]
  simp
theorem u32_none (s : Nat) (h : s < 4294967296) : bits .xor .u32 ((s : Int) / 2) 0 = ((s / 2 : Nat) : Int) := by
  have h1 := u32_xor_nat (s / 2) 0 (by omega) (by omega)
  rw [Nat.xor_zero] at h1
  rw [← h1]
  simp

theorem shift_odd (s : Nat) (h : s < 4294967296) (h2 : s % 2 = 1) (w : World) :
    Calls Try.prog 18 #[.int .u32 s] w (Tells (.int .u32 (sh s)) w) := by
  have ha := u32_and1 s h
  have hp := u32_poly s h
  have hc : sh s = s / 2 ^^^ 3988292384 := by unfold sh; rw [if_pos h2]
  rw [h2] at ha
  rw [hc, ← hp]
  clear hc hp
  go_enter Try.func18, Try.ntmps18
  go_wp2
  go_ret
  exact ⟨rfl, rfl⟩
theorem shift_even (s : Nat) (h : s < 4294967296) (h2 : s % 2 = 0) (w : World) :
    Calls Try.prog 18 #[.int .u32 s] w (Tells (.int .u32 (sh s)) w) := by
  have ha := u32_and1 s h
  have hp := u32_none s h
  have hc : sh s = s / 2 := by unfold sh; rw [if_neg (by omega)]; simp
  rw [h2] at ha
  rw [hc, ← hp]
  clear hc hp
  go_enter Try.func18, Try.ntmps18
  go_wp2
  go_ret
  exact ⟨rfl, rfl⟩
theorem shift_any (n : Int) (h0 : 0 ≤ n) (h : n < 4294967296) (w : World) :
    Calls Try.prog 18 #[.int .u32 n] w (Tells (.int .u32 (sh n.toNat)) w) := by
  obtain ⟨s, rfl⟩ := Int.eq_ofNat_of_zero_le h0
  rcases Nat.mod_two_eq_zero_or_one s with h2 | h2
  · exact shift_even s (by omega) h2 w
  · exact shift_odd s (by omega) h2 w

theorem u32_in (s c : Nat) (h : s < 4294967296) (hc : c < 256) : bits .xor .u32 (s : Int) (c : Int) = ((s ^^^ c : Nat) : Int) := u32_xor_nat s c h (by omega)
set_option maxHeartbeats 400000 in
set_option maxRecDepth 100000 in
theorem Add_nat (s c : Nat) (hs : s < 4294967296) (hc : c < 256) (w : World) :
    Calls Try.prog 9 #[.int .u32 s, .int .u8 c] w (Tells (.int .u32 (addN s c)) w) := by
  have hx := u32_in s c hs hc
  have hlt := xor_lt hs (show c < 4294967296 by omega)
  have HF := Lib.hid (show shs 8 (s ^^^ c) = addN s c from rfl)
  go_enter Try.func9, Try.ntmps9
  go_wp2
  clear hx
  generalize s ^^^ c = x at *
  go_loop [0, 9] (fun t i => ∃ j : Nat, j ≤ 8 ∧ i = .int .i64 j ∧ t = .int .u32 (shs j x)) (fun _ i => 8 - (intOf i).toNat)
  case atStart => exact ⟨0, by omega, rfl, rfl⟩
  case round =>
    obtain ⟨j, hj, rfl, rfl⟩ := hrel
    have hl := shs_lt j hlt
    by_cases hlj : j < 8
    · have HS := Lib.hid (shs_succ j x)
      generalize shs j x = y at *
      go_wp2_with (go_at_call 18; refine (shift_any _ (by omega) (by omega) _).mono ?_; rintro e w' ⟨rfl, rfl⟩)
      go_round
      case rel => exact ⟨j + 1, by omega, by go_num, by rw [HS.out]⟩
      case measure => simp [intOf]; omega
    · obtain rfl : j = 8 := by omega
      rw [HF.out]
      go_wp2
      go_ret
      exact ⟨rfl, rfl⟩
theorem Add_any (n m : Int) (h0 : 0 ≤ n) (h1 : n < 4294967296) (h2 : 0 ≤ m) (h3 : m < 256) (w : World) :
    Calls Try.prog 9 #[.int .u32 n, .int .u8 m] w (Tells (.int .u32 (addN n.toNat m.toNat)) w) := by
  obtain ⟨s, rfl⟩ := Int.eq_ofNat_of_zero_le h0
  obtain ⟨c, rfl⟩ := Int.eq_ofNat_of_zero_le h2
  exact Add_nat s c (by omega) (by omega) w

set_option maxHeartbeats 400000 in
set_option maxRecDepth 100000 in
theorem rAdd_nat (s c : Nat) (hs : s < 4294967296) (hc : c < 256) (w : World) :
    Calls Try.prog 10 #[.int .u32 s, .int .u8 c] w (Tells (.int .u32 (addN s c)) w) := by
  have hx := u32_in s c hs hc
  have hlt := xor_lt hs (show c < 4294967296 by omega)
  have HF := Lib.hid (show shs 8 (s ^^^ c) = addN s c from rfl)
  go_enter Try.func10, Try.ntmps10
  go_wp2
  clear hx
  generalize s ^^^ c = z at *
  go_loop [0, 5] (fun t i => ∃ j : Nat, j ≤ 8 ∧ i = .int .i64 j ∧ t = .int .u32 (shs j z)) (fun _ i => 8 - (intOf i).toNat)
  case atStart => exact ⟨0, by omega, rfl, rfl⟩
  case round =>
    obtain ⟨j, hj, rfl, rfl⟩ := hrel
    have hl := shs_lt j hlt
    by_cases hlj : j < 8
    · have HS := Lib.hid (shs_succ j z)
      generalize shs j z = x at *
      have hp := u32_poly x hl
      rcases Nat.mod_two_eq_zero_or_one x with h2 | h2
      · have hc1 : sh x = x / 2 := by unfold sh; rw [if_neg (by omega)]; simp
        have HC := Lib.hid hc1
        have hm : ((x : Int) % 2 == 1) = false := by simp; omega
        clear hc1 hp h2
        go_wp2
        go_round
        case rel => exact ⟨j + 1, by omega, by go_num, by rw [HS.out, HC.out]; simp⟩
        case measure => simp [intOf]; omega
      · have hc1 : sh x = x / 2 ^^^ 3988292384 := by unfold sh; rw [if_pos h2]
        have HC := Lib.hid hc1
        have hm : ((x : Int) % 2 == 1) = true := by simp; omega
        clear hc1 h2
        go_wp2
        go_round
        case rel => exact ⟨j + 1, by omega, by go_num, by rw [HS.out, HC.out]⟩
        case measure => simp [intOf]; omega
    · obtain rfl : j = 8 := by omega
      rw [HF.out]
      go_wp2
      go_ret
      exact ⟨rfl, rfl⟩
theorem rAdd_any (n m : Int) (h0 : 0 ≤ n) (h1 : n < 4294967296) (h2 : 0 ≤ m) (h3 : m < 256) (w : World) :
    Calls Try.prog 10 #[.int .u32 n, .int .u8 m] w (Tells (.int .u32 (addN n.toNat m.toNat)) w) := by
  obtain ⟨s, rfl⟩ := Int.eq_ofNat_of_zero_le h0
  obtain ⟨c, rfl⟩ := Int.eq_ofNat_of_zero_le h2
  exact rAdd_nat s c (by omega) (by omega) w

theorem compl_val (s : Nat) (h : s < 4294967296) : bits .xor .u32 IntKind.u32.max (s : Int) = ((4294967295 - s : Nat) : Int) := by
  have h1 := u32_xor_nat 4294967295 s (by omega) h
  rw [Nat.xor_comm, not_xor h] at h1
  exact h1

theorem Bytes_any (a : Option Addr) (n c : Nat) (l : List UInt8) (B : Nat) (w : World) (hL : Sl b8 w B a n c l) :
    Calls Try.prog 11 #[.slice a n c] w (Tells (.int .u32 (bytesN l)) w) := by
  have hn : n ≤ 9223372036854775807 := by have h1 := hL.nle; have h2 := hL.cle; unfold maxLen at h2; omega
  go_enter Try.func11, Try.ntmps11
  go_wp2
  go_loop [3, 8] (fun s i => ∃ k : Nat, k ≤ n ∧ i = .int .i64 k ∧ s = .int .u32 (rawN 4294967295 (l.take k))) (fun _ i => n - (intOf i).toNat)
  case atStart => exact ⟨0, by omega, rfl, rfl⟩
  case round =>
    obtain ⟨k, hk, rfl, rfl⟩ := hrel
    have hs := rawN_lt (l.take k) (s := 4294967295) (by omega)
    by_cases hlt : k < n
    · obtain ⟨b, off, x, rfl, hbk, hx, hcell⟩ := hL.at_ hlt
      have HS := Lib.hid (rawN_take 4294967295 l hx)
      have hx8 := x.toNat_lt
      generalize hS : rawN 4294967295 (l.take k) = S at *
      clear hS hx hL
      have hb : decide ((k : Int) < (n : Int)) = true := by simp; omega
      go_wp2_with (go_at_call 9; refine (Add_any _ _ (by omega) (by omega) (by omega) (by omega) _).mono ?_; rintro e w2 ⟨rfl, rfl⟩)
      go_round
      case rel => exact ⟨k + 1, by omega, by go_num, by rw [HS.out]⟩
      case measure => simp [intOf]; omega
    · obtain rfl : k = n := by omega
      have hb : decide ((k : Int) < (k : Int)) = false := by simp
      rw [List.take_of_length_le (by rw [hL.len]; exact Nat.le_refl _)] at hs ⊢
      have HF := Lib.hid (show bytesN l = 4294967295 - rawN 4294967295 l from rfl)
      have hv := compl_val _ hs
      generalize rawN 4294967295 l = S at *
      clear hL
      go_wp2
      go_ret
      rw [HF.out]
      exact ⟨rfl, rfl⟩
theorem rRaw_any (s : Nat) (hs : s < 4294967296) (a : Option Addr) (n c : Nat) (l : List UInt8) (B : Nat) (w : World) (hL : Sl b8 w B a n c l) :
    Calls Try.prog 19 #[.int .u32 (s : Int), .slice a n c] w (Tells (.int .u32 (rawN s l)) w) := by
  have hn : n ≤ 9223372036854775807 := by have h1 := hL.nle; have h2 := hL.cle; unfold maxLen at h2; omega
  go_enter Try.func19, Try.ntmps19
  go_wp2
  go_loop [0, 5] (fun t i => ∃ k : Nat, k ≤ n ∧ i = .int .i64 k ∧ t = .int .u32 (rawN s (l.take k))) (fun _ i => n - (intOf i).toNat)
  case atStart => exact ⟨0, by omega, rfl, rfl⟩
  case round =>
    obtain ⟨k, hk, rfl, rfl⟩ := hrel
    have hs1 := rawN_lt (l.take k) hs
    by_cases hlt : k < n
    · obtain ⟨b, off, x, rfl, hbk, hx, hcell⟩ := hL.at_ hlt
      have HS := Lib.hid (rawN_take s l hx)
      have hx8 := x.toNat_lt
      generalize hS : rawN s (l.take k) = S at *
      clear hS hx hL
      have hb : decide ((k : Int) < (n : Int)) = true := by simp; omega
      go_wp2_with (go_at_call 10; refine (rAdd_any _ _ (by omega) (by omega) (by omega) (by omega) _).mono ?_; rintro e w2 ⟨rfl, rfl⟩)
      go_round
      case rel => exact ⟨k + 1, by omega, by go_num, by rw [HS.out]⟩
      case measure => simp [intOf]; omega
    · obtain rfl : k = n := by omega
      have hb : decide ((k : Int) < (k : Int)) = false := by simp
      rw [List.take_of_length_le (by rw [hL.len]; exact Nat.le_refl _)]
      clear hL hs1
      go_wp2
      go_ret
      exact ⟨rfl, rfl⟩
theorem rBytes_any (a : Option Addr) (n c : Nat) (l : List UInt8) (B : Nat) (w : World) (hL : Sl b8 w B a n c l) :
    Calls Try.prog 12 #[.slice a n c] w (Tells (.int .u32 (bytesN l)) w) := by
  have hs := rawN_lt l (s := 4294967295) (by omega)
  have HF := Lib.hid (bytesN_xor l)
  go_enter Try.func12, Try.ntmps12
  go_wp2_with fail
  refine (rRaw_any 4294967295 (by omega) a n c l B _ hL).mono ?_
  rintro e w2 ⟨rfl, rfl⟩
  have hv : bits .xor .u32 ((rawN 4294967295 l : Nat) : Int) 4294967295 = ((bytesN l : Nat) : Int) := by
    have hv := u32_xor_nat _ 4294967295 hs (by omega)
    rw [← HF.out] at hv
    exact hv
  generalize rawN 4294967295 l = S at *
  go_wp2
  go_ret
  exact ⟨rfl, rfl⟩
theorem rZeros_any (s : Nat) (hs : s < 4294967296) (n : Int) (hn : n ≤ 9223372036854775807) (w : World) :
    Calls Try.prog 16 #[.int .u32 (s : Int), .int .i64 n] w (Tells (.int .u32 (shs (8 * n.toNat) s)) w) := by
  go_enter Try.func16, Try.ntmps16
  go_wp2
  go_loop [0, 5] (fun t i => ∃ k : Nat, k ≤ n.toNat ∧ i = .int .i64 k ∧ t = .int .u32 (shs (8 * k) s)) (fun _ i => n.toNat - (intOf i).toNat)
  case atStart => exact ⟨0, by omega, rfl, rfl⟩
  case round =>
    obtain ⟨k, hk, rfl, rfl⟩ := hrel
    have hs1 := shs_lt (8 * k) hs
    by_cases hlt : k < n.toNat
    · have HS : Hid (shs (8 * (k + 1)) s = addN (shs (8 * k) s) 0) := Lib.hid (by rw [show 8 * (k + 1) = 8 * k + 8 by omega, shs_add]; unfold addN; rw [Nat.xor_zero])
      generalize shs (8 * k) s = S at *
      have hb : decide ((k : Int) < n) = true := by simp; omega
      go_wp2_with (go_at_call 10; refine (rAdd_any _ _ (by omega) (by omega) (by omega) (by omega) _).mono ?_; rintro e w2 ⟨rfl, rfl⟩)
      go_round
      case rel => exact ⟨k + 1, by omega, by go_num, by rw [HS.out]⟩
      case measure => simp [intOf]; omega
    · obtain rfl : k = n.toNat := by omega
      have hb : decide (((n.toNat : Nat) : Int) < n) = false := by simp; omega
      go_wp2
      go_ret
      exact ⟨rfl, rfl⟩
end Go.Proofs.Ytbiecnopgaghbaa.SumW
