/- SumTells, walked. -/
import Derived.Test.YtbiecnopgaghbaaSumZ
import Derived.Test.YtbiecnopgaghbaaSumAwake
import Derived.Test.YtbiecnopgaghbaaSumLawZeros
open Go.RowKit
namespace Go.Proofs.Ytbiecnopgaghbaa.SumW
open AskM (putN)
open SumM Mem

set_option maxHeartbeats 1000000 in
set_option maxRecDepth 100000 in
theorem SumTells_walk (s : Nat) (a1 : Option Addr) (n1 c1 : Nat) (l1 : List UInt8) (a2 : Option Addr) (n2 c2 : Nat) (l2 : List UInt16) (n : Int) (w : World) (hs : s < 4294967296) (h1 : Sl b8 w w.heap.size a1 n1 c1 l1) (h2 : Sl b16 w w.heap.size a2 n2 c2 l2) (hn0 : -9223372036854775808 ≤ n) (hn1 : n ≤ 9223372036854775807) :
    Calls Try.prog 3 #[.int .u32 s, .slice a1 n1 c1, .slice a2 n2 c2, .int .i64 n] w (Says (.bool true) w) := by
  by_cases hq1 : 500 < n1
  · have t1 : decide ((500 : Int) < (n1 : Int)) = true := by simp; omega
    go_enter Try.func3, Try.ntmps3
    go_wp2_with fail
    refine (awake_any _).mono ?_
    rintro e w1 ⟨rfl, b1⟩
    go_wp2
    go_ret
    exact Says.mk b1
  have t1 : decide ((500 : Int) < (n1 : Int)) = false := by simp; omega
  by_cases hq2 : 200 < n2
  · have t2 : decide ((200 : Int) < (n2 : Int)) = true := by simp; omega
    go_enter Try.func3, Try.ntmps3
    go_wp2_with fail
    refine (awake_any _).mono ?_
    rintro e w1 ⟨rfl, b1⟩
    go_wp2
    go_ret
    exact Says.mk b1
  have t2 : decide ((200 : Int) < (n2 : Int)) = false := by simp; omega
  have H1 := Lib.hid h1
  have H2 := Lib.hid h2
  have HL1 := Lib.hid h1.len
  clear h1 h2
  go_enter Try.func3, Try.ntmps3
  go_wp2_with fail
  go_loop [0, 9, 24] (fun t0 t9 i => ∃ k : Nat, k ≤ n1 ∧ i = .int .i64 k ∧ t0 = .int .u32 (rawN s (l1.take k)) ∧ t9 = .int .u32 (rawN s (l1.take k))) (fun _ _ i => n1 - (intOf i).toNat)
  case atStart => exact ⟨0, by omega, rfl, rfl, rfl⟩
  case round =>
    obtain ⟨k, hk, rfl, rfl, rfl⟩ := hrel
    have hr := rawN_lt (l1.take k) hs
    by_cases hlt : k < n1
    · obtain ⟨b, off, x, rfl, hbk, hx, hcell⟩ := H1.out.at_ hlt
      have HS := Lib.hid (rawN_take s l1 hx)
      have hx8 := x.toNat_lt
      generalize hS : rawN s (l1.take k) = S at *
      clear hS hx
      have hb : decide ((k : Int) < (n1 : Int)) = true := by simp; omega
      go_wp2_with fail
      refine (Add_nat S x.toNat hr hx8 _).mono ?_
      rintro e w2 ⟨rfl, rfl⟩
      go_wp2_with fail
      refine (rAdd_nat S x.toNat hr hx8 _).mono ?_
      rintro e w2 ⟨rfl, rfl⟩
      generalize addN S x.toNat = V at *
      go_wp2_with fail
      go_round
      case rel => exact ⟨k + 1, by omega, by go_num, by rw [HS.out], by rw [HS.out]⟩
      case measure => simp [intOf]; omega
    · obtain rfl : k = n1 := by omega
      have hb : decide ((k : Int) < (k : Int)) = false := by simp
      have hc : k ≤ 500 := by omega
      rw [List.take_of_length_le (by rw [HL1.out]; exact Nat.le_refl _)] at hr ⊢
      generalize rawN s l1 = S at *
      by_cases hbig : 500 < n
      · have t3 : decide ((500 : Int) < n) = true := by simp; omega
        have hmod : 0 ≤ n % 501 ∧ n % 501 ≤ 500 := by omega
        go_wp2_with fail
        obtain ⟨m, hm⟩ : ∃ m, n % 501 = m := ⟨_, rfl⟩
        rw [hm]
        rw [hm] at hmod
        clear hm
        refine (Bytes_any a1 k c1 l1 _ w H1.out).mono ?_
        rintro e w2 ⟨rfl, rfl⟩
        go_wp2_with fail
        refine (rBytes_any a1 k c1 l1 _ w H1.out).mono ?_
        rintro e w2 ⟨rfl, rfl⟩
        generalize bytesN l1 = Y1 at *
        go_wp2_with fail
        refine (Words_any a2 n2 c2 l2 _ H2.out (by omega)).mono ?_
        rintro e w3 ⟨rfl, b3⟩
        go_wp2_with fail
        refine (rWords_any a2 n2 c2 l2 _ ((H2.out.below b3 (Nat.le_refl _)).more b3.size) (by omega)).mono ?_
        rintro e w4 ⟨rfl, b4⟩
        have B4 := b3.trans (b4.mono b3.size)
        clear b3 b4
        generalize bytesN (putN l2) = Y2 at *
        go_wp2_with fail
        refine (zeros_at hr (n := m) rfl rfl (by omega) (by omega) _).mono ?_
        rintro e w5 ⟨rfl, b5⟩
        have B5 := B4.trans (b5.mono B4.size)
        clear B4 b5
        go_wp2_with fail
        refine (rZeros_any S hr m (by omega) _).mono ?_
        rintro e w6 ⟨rfl, rfl⟩
        generalize shs (8 * m.toNat) S = Y3 at *
        go_wp2_with fail
        refine (awake_any _).mono ?_
        rintro e w7 ⟨rfl, b7⟩
        go_wp2
        go_ret
        exact Says.mk (B5.trans (b7.mono B5.size))
      · have t3 : decide ((500 : Int) < n) = false := by simp; omega
        go_wp2_with fail
        refine (Bytes_any a1 k c1 l1 _ w H1.out).mono ?_
        rintro e w2 ⟨rfl, rfl⟩
        go_wp2_with fail
        refine (rBytes_any a1 k c1 l1 _ w H1.out).mono ?_
        rintro e w2 ⟨rfl, rfl⟩
        generalize bytesN l1 = Y1 at *
        go_wp2_with fail
        refine (Words_any a2 n2 c2 l2 _ H2.out (by omega)).mono ?_
        rintro e w3 ⟨rfl, b3⟩
        go_wp2_with fail
        refine (rWords_any a2 n2 c2 l2 _ ((H2.out.below b3 (Nat.le_refl _)).more b3.size) (by omega)).mono ?_
        rintro e w4 ⟨rfl, b4⟩
        have B4 := b3.trans (b4.mono b3.size)
        clear b3 b4
        generalize bytesN (putN l2) = Y2 at *
        go_wp2_with fail
        refine (zeros_at hr (n := n) rfl rfl (by omega) (by omega) _).mono ?_
        rintro e w5 ⟨rfl, b5⟩
        have B5 := B4.trans (b5.mono B4.size)
        clear B4 b5
        go_wp2_with fail
        refine (rZeros_any S hr n (by omega) _).mono ?_
        rintro e w6 ⟨rfl, rfl⟩
        generalize shs (8 * n.toNat) S = Y3 at *
        go_wp2_with fail
        refine (awake_any _).mono ?_
        rintro e w7 ⟨rfl, b7⟩
        go_wp2
        go_ret
        exact Says.mk (B5.trans (b7.mono B5.size))
end Go.Proofs.Ytbiecnopgaghbaa.SumW
