/- SumZeros, walked. -/
import Derived.Test.YtbiecnopgaghbaaSumZ
import Derived.Test.YtbiecnopgaghbaaSumAwake
open Go.RowKit
namespace Go.Proofs.Ytbiecnopgaghbaa.SumW
open SumM Mem

theorem beq_nat (a b : Nat) : ((a : Int) == (b : Int)) = decide (a = b) := by
  rw [Bool.eq_iff_iff]; simp; omega
theorem zeros_at {s : Nat} (hs : s < 4294967296) {n : Int} {N : Nat} (hN : n.toNat = N) {r : Nat} (hr : shs (8 * N) s = r) (h0 : -9223372036854775808 ≤ n) (hn : n ≤ 9223372036854775807) (w : World) :
    Calls Try.prog 15 #[.int .u32 (s : Int), .int .i64 n] w (Says (.int .u32 (r : Int)) w) := by
  rw [← hr]
  exact Zeros_nat s hs n N hN.symm h0 hn w

set_option maxHeartbeats 1000000 in
set_option maxRecDepth 100000 in
theorem SumZeros_walk (s t a b : Nat) (w : World) (hs : s < 4294967296) (ht : t < 4294967296) (ha : a < 18446744073709551616) (hb : b < 18446744073709551616) :
    Calls Try.prog 5 #[.int .u32 s, .int .u32 t, .int .u64 a, .int .u64 b] w (Says (.bool true) w) := by
  obtain ⟨n, hn⟩ : ∃ n : Nat, (a : Int) % 1099511627777 = (n : Int) := ⟨a % 1099511627777, by omega⟩
  obtain ⟨m, hm⟩ : ∃ m : Nat, (b : Int) % 1099511627777 = (m : Int) := ⟨b % 1099511627777, by omega⟩
  have hn2 : n ≤ 1099511627776 := by omega
  have hm2 : m ≤ 1099511627776 := by omega
  have hX := shs_lt (8 * n) hs
  have hY := shs_lt (8 * n) ht
  have hst := xor_lt hs ht
  have E1 := Lib.hid (show shs (8 * m) (shs (8 * n) s) = shs (8 * (n + m)) s by rw [← shs_add]; congr 1; omega)
  have E2 := Lib.hid (show shs (8 * 1) s = addN s 0 by unfold addN; rw [Nat.xor_zero])
  obtain ⟨z, hz⟩ : ∃ z, ((s : Int) == 0) = z := ⟨_, rfl⟩
  obtain ⟨q, hq⟩ : ∃ q, ((s : Int) == (t : Int)) = q := ⟨_, rfl⟩
  have hz2 : (((shs (8 * n) s : Nat) : Int) == 0) = z := by
    have := shs_inj (k := 8 * n) hs (show 0 < 4294967296 by omega)
    rw [shs_zero] at this
    rw [← hz, Bool.eq_iff_iff]
    simp
    omega
  have hq2 : (((shs (8 * n) s : Nat) : Int) == ((shs (8 * n) t : Nat) : Int)) = q := by
    have := shs_inj (k := 8 * n) hs ht
    rw [← hq, Bool.eq_iff_iff]
    simp
    omega
  have E6 := Lib.hid (shs_xor (8 * n) s t)
  have HX := Lib.hid (rfl : shs (8 * n) s = shs (8 * n) s)
  have EX := u32_xor_nat _ _ hX hY
  have ET := u32_xor_nat s t hs ht
  have HX : Hid (∃ X, shs (8 * n) s = X) := Lib.hid ⟨_, rfl⟩
  have HY : Hid (∃ Y, shs (8 * n) t = Y) := Lib.hid ⟨_, rfl⟩
  obtain ⟨X, eX⟩ := HX.out
  obtain ⟨Y, eY⟩ := HY.out
  obtain ⟨Z, eZ⟩ : ∃ Z, shs (8 * (n + m)) s = Z := ⟨_, rfl⟩
  obtain ⟨V, eV⟩ : ∃ V, addN s 0 = V := ⟨_, rfl⟩
  obtain ⟨U, eU⟩ : ∃ U, s ^^^ t = U := ⟨_, rfl⟩
  obtain ⟨XY, eXY⟩ : ∃ XY, X ^^^ Y = XY := ⟨_, rfl⟩
  have C1 := Lib.hid (fun w => zeros_at hs (n := (n : Int)) (N := n) (by omega) eX (by omega) (by omega) w)
  have C8 := Lib.hid (fun w => zeros_at ht (n := (n : Int)) (N := n) (by omega) eY (by omega) (by omega) w)
  rw [eX] at hX E1 hz2 hq2 E6 EX
  rw [eY] at hq2 E6 EX
  rw [eU] at E6 ET hst
  rw [eXY] at E6 EX
  have C2 := Lib.hid (fun w => zeros_at hX (n := (m : Int)) (N := m) (by omega) (E1.out.trans eZ) (by omega) (by omega) w)
  have C3 := Lib.hid (fun w => zeros_at hs (n := (n : Int) + (m : Int)) (N := n + m) (by omega) eZ (by omega) (by omega) w)
  have C4 := Lib.hid (fun w => zeros_at hs (n := 1) (N := 1) (by omega) (E2.out.trans eV) (by omega) (by omega) w)
  have C5 := Lib.hid (fun w => Add_nat s 0 hs (by omega) w)
  rw [eV] at C5
  have C6 := Lib.hid (fun w => zeros_at hs (n := 0) (N := 0) (by omega) (r := s) rfl (by omega) (by omega) w)
  have C7 := Lib.hid (fun w => zeros_at hs (n := -1 - (n : Int)) (N := 0) (by omega) (r := s) rfl (by omega) (by omega) w)
  have C9 := Lib.hid (fun w => zeros_at hst (n := (n : Int)) (N := n) (by omega) E6.out (by omega) (by omega) w)
  clear E1 E2 E6 HX HY eX eY eZ eV eU eXY hX hY hst
  go_enter Try.func5, Try.ntmps5
  go_wp2_with fail
  refine (C1.out _).mono ?_
  rintro e w1 ⟨rfl, b1⟩
  go_wp2_with fail
  refine (C2.out _).mono ?_
  rintro e w2 ⟨rfl, b2⟩
  have B2 := b1.trans (b2.mono b1.size)
  clear b1 b2
  go_wp2_with fail
  refine (C3.out _).mono ?_
  rintro e w3 ⟨rfl, b3⟩
  have B3 := B2.trans (b3.mono B2.size)
  clear B2 b3
  go_wp2_with fail
  refine (C4.out _).mono ?_
  rintro e w4 ⟨rfl, b4⟩
  have B4 := B3.trans (b4.mono B3.size)
  clear B3 b4
  go_wp2_with fail
  refine (C5.out _).mono ?_
  rintro e w5 ⟨rfl, rfl⟩
  go_wp2_with fail
  refine (C6.out _).mono ?_
  rintro e w6 ⟨rfl, b6⟩
  have B6 := B4.trans (b6.mono B4.size)
  clear B4 b6
  go_wp2_with fail
  refine (C7.out _).mono ?_
  rintro e w7 ⟨rfl, b7⟩
  have B7 := B6.trans (b7.mono B6.size)
  clear B6 b7
  go_wp2_with fail
  refine (C8.out _).mono ?_
  rintro e w8 ⟨rfl, b8'⟩
  have B8 := B7.trans (b8'.mono B7.size)
  clear B7 b8'
  go_wp2_with fail
  refine (C1.out _).mono ?_
  rintro e w9 ⟨rfl, b9⟩
  have B9 := B8.trans (b9.mono B8.size)
  clear B8 b9
  go_wp2_with fail
  refine (C8.out _).mono ?_
  rintro e w10 ⟨rfl, b10⟩
  have B10 := B9.trans (b10.mono B9.size)
  clear B9 b10
  go_wp2_with fail
  refine (C9.out _).mono ?_
  rintro e w11 ⟨rfl, b11⟩
  have B11 := B10.trans (b11.mono B10.size)
  clear B10 b11
  go_wp2_with fail
  refine (awake_any _).mono ?_
  rintro e w12 ⟨rfl, b12⟩
  go_wp2
  go_ret
  exact Says.mk (B11.trans (b12.mono B11.size))
end Go.Proofs.Ytbiecnopgaghbaa.SumW
