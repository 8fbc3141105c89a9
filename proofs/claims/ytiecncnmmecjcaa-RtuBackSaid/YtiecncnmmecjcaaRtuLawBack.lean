/- The law RtuBack, walked. -/
import Derived.Test.YtiecncnmmecjcaaRtuAwake
import Derived.Test.YtiecncnmmecjcaaSpoil
open Go.RowKit
namespace Go.Proofs.Ytiecncnmmecjcaa.RtuW
open CrcM AskM AskW ReplyM ReplyW RtuM Mem

set_option maxRecDepth 100000 in
set_option maxHeartbeats 4000000 in
theorem RtuBack_u (u : UInt8) (a : Option Addr) (n c : Nat) (l : List UInt8) (x2 x3 : Nat) (w : World) (hl : Sl b8 w w.heap.size a n c l) (h2 : x2 < 65536) (h3 : x3 < 65536) :
    Calls Try.prog 8 #[b8 u, .slice a n c, .int .u16 (x2 : Int), .int .u16 (x3 : Int)] w (Says (.bool true) w) := by
  have hlen := hl.len
  have hn := len_le hl
  have hu := u.toNat_lt
  have HL := Lib.hid hl
  clear hl
  by_cases h1 : 300 < n
  · have t1 : decide (300 < (n : Int)) = true := by simp; omega
    go_enter Try.func8, Try.ntmps8
    go_wp2_with fail
    refine (qawake_any _).mono ?_
    rintro e w1 ⟨rfl, hb⟩
    go_wp2_with fail
    go_ret
    exact Says.mk hb
  have t1 : decide (300 < (n : Int)) = false := by simp; omega
  have hBY := Bytes_own u a n c l w HL.out
  rcases frame_cases u l with ⟨b, hf, hfl⟩ | ⟨hf, hno⟩
  case inr =>
    rw [hf] at hBY
    have HBY := Lib.hid hBY
    clear hf hBY h1
    have hno2 : u.toNat = 0 ∨ (u.toNat ≠ 0 ∧ 247 < u.toNat) ∨ (u.toNat ≠ 0 ∧ u.toNat ≤ 247 ∧ n = 0) ∨ (u.toNat ≠ 0 ∧ u.toNat ≤ 247 ∧ n ≠ 0 ∧ 253 < n) := by
      unfold unitB at hno
      simp only [Bool.and_eq_true, decide_eq_true_eq] at hno
      omega
    clear hno
    have run : ∀ (_ : True), Calls Try.prog 8 #[b8 u, .slice a n c, .int .u16 (x2 : Int), .int .u16 (x3 : Int)] w (Says (.bool true) w) := by
      intro _
      rcases hno2 with h | ⟨h0, h⟩ | ⟨h0, h1, h⟩ | ⟨h0, h1, h2', h⟩
      · have s1 : ((u.toNat : Int) == 0) = true := by simp; omega
        clear h
        go_enter Try.func8, Try.ntmps8
        go_wp2_with fail
        refine HBY.out.mono ?_
        rintro e w1 ⟨v, rfl, ho, hb⟩
        obtain ⟨a1, c1, rfl, -⟩ := Sl.of_own ho
        clear ho
        simp only [List.length_nil] at *
        go_wp2_with fail
        refine (qawake_any _).mono ?_
        rintro e w2 ⟨rfl, hb2⟩
        go_wp2_with fail
        go_ret
        exact Says.mk (hb.trans (hb2.mono hb.size))
      · have s1 : ((u.toNat : Int) == 0) = false := by simp; omega
        have s2 : decide (247 < (u.toNat : Int)) = true := by simp; omega
        clear h h0
        go_enter Try.func8, Try.ntmps8
        go_wp2_with fail
        refine HBY.out.mono ?_
        rintro e w1 ⟨v, rfl, ho, hb⟩
        obtain ⟨a1, c1, rfl, -⟩ := Sl.of_own ho
        clear ho
        simp only [List.length_nil] at *
        go_wp2_with fail
        refine (qawake_any _).mono ?_
        rintro e w2 ⟨rfl, hb2⟩
        go_wp2_with fail
        go_ret
        exact Says.mk (hb.trans (hb2.mono hb.size))
      · have s1 : ((u.toNat : Int) == 0) = false := by simp; omega
        have s2 : decide (247 < (u.toNat : Int)) = false := by simp; omega
        have s3 : ((n : Int) == 0) = true := by simp; omega
        clear h h0 h1
        go_enter Try.func8, Try.ntmps8
        go_wp2_with fail
        refine HBY.out.mono ?_
        rintro e w1 ⟨v, rfl, ho, hb⟩
        obtain ⟨a1, c1, rfl, -⟩ := Sl.of_own ho
        clear ho
        simp only [List.length_nil] at *
        go_wp2_with fail
        refine (qawake_any _).mono ?_
        rintro e w2 ⟨rfl, hb2⟩
        go_wp2_with fail
        go_ret
        exact Says.mk (hb.trans (hb2.mono hb.size))
      · have s1 : ((u.toNat : Int) == 0) = false := by simp; omega
        have s2 : decide (247 < (u.toNat : Int)) = false := by simp; omega
        have s3 : ((n : Int) == 0) = false := by simp; omega
        have s4 : decide (253 < (n : Int)) = true := by simp; omega
        clear h h0 h1 h2'
        go_enter Try.func8, Try.ntmps8
        go_wp2_with fail
        refine HBY.out.mono ?_
        rintro e w1 ⟨v, rfl, ho, hb⟩
        obtain ⟨a1, c1, rfl, -⟩ := Sl.of_own ho
        clear ho
        simp only [List.length_nil] at *
        go_wp2_with fail
        refine (qawake_any _).mono ?_
        rintro e w2 ⟨rfl, hb2⟩
        go_wp2_with fail
        go_ret
        exact Says.mk (hb.trans (hb2.mono hb.size))
    exact run trivial
  case inl =>
    rw [hf] at hBY
    have HBY := Lib.hid hBY
    have hfo := frame_ok hf
    have hnn : 1 ≤ n ∧ n ≤ 253 := by omega
    have HSP := Lib.hid (fun at_ (h : at_ ≤ 8 * b.length) => open_spoilt hf (at_ := at_) (p := x3) h)
    have HOF := Lib.hid (open_frame hf)
    have hbl : b.length = n + 3 := by omega
    have HBL := Lib.hid hbl
    clear hf hBY h1 hfo hfl
    go_enter Try.func8, Try.ntmps8
    go_wp2_with fail
    refine HBY.out.mono ?_
    rintro e w1 ⟨v, rfl, ho, hb⟩
    obtain ⟨g, cap, hv, hg1, hg2, hov, hSg⟩ := own_at ho (by rw [hbl]; omega)
    subst hv
    rw [hbl] at hov hSg
    have HB1 := Lib.hid hb
    have HOV := Lib.hid hov
    have HSg := Lib.hid hSg
    clear hb ho hov hSg HBY
    simp only [hbl]
    clear hbl
    have tn : ((n : Int) + 3 != (n : Int) + 3) = false := by simp
    go_wp2_with fail
    rw [show ((x2 : Int) % (8 * ((n : Int) + 3))) = ((x2 % (8 * (n + 3)) : Nat) : Int) by push_cast; rfl]
    have hm : x2 % (8 * (n + 3)) < 8 * (n + 3) := Nat.mod_lt _ (by omega)
    generalize x2 % (8 * (n + 3)) = at_ at *
    refine (Spoil_own _ _ _ _ at_ x3 w1 HSg.out (by omega) (by omega) (by omega) h3).mono ?_
    rintro e w2 ⟨v, rfl, ho, hb⟩
    obtain ⟨g2, cap2, hv, -, -, -, hS2⟩ := own_at ho (by omega)
    subst hv
    have HB2 := Lib.hid hb
    have hO := HSP.out at_ (by have := HBL.out; omega)
    clear ho hb
    -- TAIL
    cases hany : anyK b at_ x3 16 with
    | true =>
      rw [hany, if_pos rfl] at hO
      have hP := Parse_any _ _ _ _ _ hS2
      rw [hO] at hP
      have HP := Lib.hid hP
      clear hP hO hany HSP hS2
      go_wp2_with fail
      refine HP.out.mono ?_
      rintro e w3 ⟨a3, c3, rfl, -, hb, -⟩
      have HB3 := Lib.hid (HB2.out.trans (hb.mono HB2.out.size))
      clear hb HP HB2
      simp only [List.length_nil]
      have hPB := Parse_any _ _ _ _ _ ((HSg.out.below HB3.out (Nat.le_refl _)).more HB3.out.size)
      rw [HOF.out] at hPB
      have HPB := Lib.hid hPB
      clear hPB
      go_wp2_with fail
      refine HPB.out.mono ?_
      rintro e w4 ⟨a4, c4, rfl, hs4, hb4, hx4⟩
      have HB4 := Lib.hid (HB3.out.trans (hb4.mono HB3.out.size))
      have HS4 := Lib.hid hs4
      have HX4 := Lib.hid hx4
      have hz3 : g < w3.heap.size := Nat.lt_of_lt_of_le hg2 HB3.out.size
      clear hb4 hs4 hx4 HPB HB3
      simp only [hlen]
      go_wp2_with fail
      have HX1 := Lib.hid (HOV.out.start HB4.out)
      have HZ4 := Lib.hid HB4.out.size
      have HZ3 := Lib.hid hz3
      have HW4 := Lib.hid (HB1.out.trans (HB4.out.mono HB1.out.size))
      clear hz3
      go_loopw [19, 96] (fun u i wr => ∃ k : Nat, k ≤ n + 3 ∧ i = .int .i64 k ∧ Over w4 wr g (n + 3)) (fun _ i _ => n + 3 - (intOf i).toNat)
      case atStart => exact ⟨0, by omega, rfl, HX1.out⟩
      case round =>
        obtain ⟨k, hk, rfl, hov⟩ := hrel
        by_cases hlt : k < n + 3
        · have ht : decide ((k : Int) < (n : Int) + 3) = true := by simp; omega
          obtain ⟨x, hcx⟩ := hov.cell hlt
          have hfx := hov.free (i := k)
          have hfl := flip_val x
          have HOV6 := Lib.hid (hov.set (i := k) (x ^^^ 255))
          have hk1 : (k : Int) < (n : Int) + 3 := by omega
          clear hov
          go_wp2_with fail
          go_roundw
          case rel => exact ⟨k + 1, by omega, by go_num, HOV6.out⟩
          case measure => simp [intOf]; omega
        · obtain rfl : k = n + 3 := by omega
          have ht : decide (((n + 3 : Nat) : Int) < (n : Int) + 3) = false := by simp
          have HBX := Lib.hid (hov.below HW4.out HW4.out.size hg1)
          have HZR := Lib.hid hov.size
          have hIN := hov.sl HS4.out (.inr fun x hx => by have h1 := HX4.out x hx; have h2 := HZ3.out; omega)
          have hPD := hov.sl (HL.out.below HW4.out (Nat.le_refl _)) (.inl hg1)
          have te : ((u.toNat : Int) == (u.toNat : Int)) = true := by simp
          rw [hlen] at hIN
          have HIN := Lib.hid hIN
          have HPD := Lib.hid hPD
          clear hov hIN hPD hk hlt hm hnn hg2 HX4 HS4
          go_wp2_with fail
          refine (LowSame_any _ _ _ _ _ _ _ _ _ _ _ HIN.out HPD.out).mono ?_
          rw [show decide (l = l) = true by simp]
          intro e w5 h
          have HB5 := Lib.hid (HBX.out.trans (h.below.mono HBX.out.size))
          obtain ⟨rfl, -⟩ := h
          clear HIN HPD
          go_wp2_with fail
          refine (qawake_any _).mono ?_
          rintro e w6 ⟨rfl, hb6⟩
          have HB6 := Lib.hid (HB5.out.trans (hb6.mono HB5.out.size))
          clear hb6
          go_wp2_with fail
          go_ret
          exact Says.mk HB6.out
    | false =>
      rw [hany, if_neg (by simp)] at hO
      have hP := Parse_any _ _ _ _ _ hS2
      rw [hO] at hP
      have HP := Lib.hid hP
      clear hP hO hany HSP hS2
      go_wp2_with fail
      refine HP.out.mono ?_
      rintro e w3 ⟨a3, c3, rfl, -, hb, -⟩
      have HB3 := Lib.hid (HB2.out.trans (hb.mono HB2.out.size))
      clear hb HP HB2
      simp only [hlen]
      have hPB := Parse_any _ _ _ _ _ ((HSg.out.below HB3.out (Nat.le_refl _)).more HB3.out.size)
      rw [HOF.out] at hPB
      have HPB := Lib.hid hPB
      clear hPB
      go_wp2_with fail
      refine HPB.out.mono ?_
      rintro e w4 ⟨a4, c4, rfl, hs4, hb4, hx4⟩
      have HB4 := Lib.hid (HB3.out.trans (hb4.mono HB3.out.size))
      have HS4 := Lib.hid hs4
      have HX4 := Lib.hid hx4
      have hz3 : g < w3.heap.size := Nat.lt_of_lt_of_le hg2 HB3.out.size
      clear hb4 hs4 hx4 HPB HB3
      simp only [hlen]
      go_wp2_with fail
      have HX1 := Lib.hid (HOV.out.start HB4.out)
      have HZ4 := Lib.hid HB4.out.size
      have HZ3 := Lib.hid hz3
      have HW4 := Lib.hid (HB1.out.trans (HB4.out.mono HB1.out.size))
      clear hz3
      go_loopw [19, 96] (fun u i wr => ∃ k : Nat, k ≤ n + 3 ∧ i = .int .i64 k ∧ Over w4 wr g (n + 3)) (fun _ i _ => n + 3 - (intOf i).toNat)
      case atStart => exact ⟨0, by omega, rfl, HX1.out⟩
      case round =>
        obtain ⟨k, hk, rfl, hov⟩ := hrel
        by_cases hlt : k < n + 3
        · have ht : decide ((k : Int) < (n : Int) + 3) = true := by simp; omega
          obtain ⟨x, hcx⟩ := hov.cell hlt
          have hfx := hov.free (i := k)
          have hfl := flip_val x
          have HOV6 := Lib.hid (hov.set (i := k) (x ^^^ 255))
          have hk1 : (k : Int) < (n : Int) + 3 := by omega
          clear hov
          go_wp2_with fail
          go_roundw
          case rel => exact ⟨k + 1, by omega, by go_num, HOV6.out⟩
          case measure => simp [intOf]; omega
        · obtain rfl : k = n + 3 := by omega
          have ht : decide (((n + 3 : Nat) : Int) < (n : Int) + 3) = false := by simp
          have HBX := Lib.hid (hov.below HW4.out HW4.out.size hg1)
          have HZR := Lib.hid hov.size
          have hIN := hov.sl HS4.out (.inr fun x hx => by have h1 := HX4.out x hx; have h2 := HZ3.out; omega)
          have hPD := hov.sl (HL.out.below HW4.out (Nat.le_refl _)) (.inl hg1)
          have te : ((u.toNat : Int) == (u.toNat : Int)) = true := by simp
          rw [hlen] at hIN
          have HIN := Lib.hid hIN
          have HPD := Lib.hid hPD
          clear hov hIN hPD hk hlt hm hnn hg2 HX4 HS4
          go_wp2_with fail
          refine (LowSame_any _ _ _ _ _ _ _ _ _ _ _ HIN.out HPD.out).mono ?_
          rw [show decide (l = l) = true by simp]
          intro e w5 h
          have HB5 := Lib.hid (HBX.out.trans (h.below.mono HBX.out.size))
          obtain ⟨rfl, -⟩ := h
          clear HIN HPD
          go_wp2_with fail
          refine (qawake_any _).mono ?_
          rintro e w6 ⟨rfl, hb6⟩
          have HB6 := Lib.hid (HB5.out.trans (hb6.mono HB5.out.size))
          clear hb6
          go_wp2_with fail
          go_ret
          exact Says.mk HB6.out
theorem RtuBack_walk (x0 : Nat) (a : Option Addr) (n c : Nat) (l : List UInt8) (x2 x3 : Nat) (w : World) (h0 : x0 < 256) (hl : Sl b8 w w.heap.size a n c l) (h2 : x2 < 65536) (h3 : x3 < 65536) :
    Calls Try.prog 8 #[.int .u8 (x0 : Int), .slice a n c, .int .u16 (x2 : Int), .int .u16 (x3 : Int)] w (Says (.bool true) w) := by
  have h := RtuBack_u (UInt8.ofNat x0) a n c l x2 x3 w hl h2 h3
  rwa [show b8 (UInt8.ofNat x0) = .int .u8 (x0 : Int) by unfold b8; congr 1; simp; omega] at h
end Go.Proofs.Ytiecncnmmecjcaa.RtuW
