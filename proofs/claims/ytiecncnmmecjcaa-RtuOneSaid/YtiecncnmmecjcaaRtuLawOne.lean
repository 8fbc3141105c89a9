/- The law RtuOne, walked. -/
import Derived.Test.YtiecncnmmecjcaaRtuAwake
open Go.RowKit
namespace Go.Proofs.Ytiecncnmmecjcaa.RtuW
open CrcM AskM AskW ReplyM ReplyW RtuM Mem

theorem open_lens {b : List UInt8} {r : UInt8 × List UInt8} (h : openR b = (0, r)) : ¬ b.length < 4 ∧ ¬ 256 < b.length := by
  unfold openR at h
  split at h
  · cases h
  · rename_i h1; omega
theorem open_lens11 {b : List UInt8} {r : UInt8 × List UInt8} (h : openR b = (11, r)) : ¬ b.length < 4 ∧ ¬ 256 < b.length := by
  unfold openR at h
  split at h
  · cases h
  · rename_i h1; omega
theorem frames_eq {u v : UInt8} {p q x y : List UInt8} (hx : frameR u p = (0, x)) (hy : frameR v q = (0, y)) : decide (x = y) = (decide (u = v) && decide (p = q)) := by
  by_cases h : x = y
  · subst h
    obtain ⟨rfl, rfl⟩ := frame_inj hx hy
    simp
  · rw [decide_eq_false h]
    symm
    rw [Bool.and_eq_false_iff]
    by_cases hu : u = v
    · subst hu
      right
      rw [decide_eq_false_iff_not]
      rintro rfl
      rw [hx] at hy
      injection hy with _ hy
      exact h hy
    · left; simpa using hu

set_option maxRecDepth 100000 in
set_option maxHeartbeats 40000000 in
theorem RtuOne_u (a : Option Addr) (n c : Nat) (l : List UInt8) (u v : UInt8) (ap : Option Addr) (np cp : Nat) (p : List UInt8) (aq : Option Addr) (nq cq : Nat) (q : List UInt8) (w : World)
    (hl : Sl b8 w w.heap.size a n c l) (hp : Sl b8 w w.heap.size ap np cp p) (hq : Sl b8 w w.heap.size aq nq cq q) :
    Calls Try.prog 9 #[.slice a n c, b8 u, b8 v, .slice ap np cp, .slice aq nq cq] w (Says (.bool true) w) := by
  have hlen := hl.len
  have hn := len_le hl
  have hnp := len_le hp
  have hnq := len_le hq
  have HL := Lib.hid hl
  have HP := Lib.hid hp
  have HQ := Lib.hid hq
  clear hl hp hq
  by_cases h1 : 300 < n
  · have t1 : decide (300 < (n : Int)) = true := by simp; omega
    clear h1
    go_enter Try.func9, Try.ntmps9
    go_wp2_with fail
    refine (qawake_any _).mono ?_
    rintro e w1 ⟨rfl, hb⟩
    go_wp2_with fail
    go_ret
    exact Says.mk hb
  have t1 : decide (300 < (n : Int)) = false := by simp; omega
  by_cases h2 : 260 < np
  · have t2 : decide (260 < (np : Int)) = true := by simp; omega
    clear h2
    go_enter Try.func9, Try.ntmps9
    go_wp2_with fail
    refine (qawake_any _).mono ?_
    rintro e w1 ⟨rfl, hb⟩
    go_wp2_with fail
    go_ret
    exact Says.mk hb
  have t2 : decide (260 < (np : Int)) = false := by simp; omega
  by_cases h3 : 260 < nq
  · have t3 : decide (260 < (nq : Int)) = true := by simp; omega
    clear h3
    go_enter Try.func9, Try.ntmps9
    go_wp2_with fail
    refine (qawake_any _).mono ?_
    rintro e w1 ⟨rfl, hb⟩
    go_wp2_with fail
    go_ret
    exact Says.mk hb
  have t3 : decide (260 < (nq : Int)) = false := by simp; omega
  have hPA := Parse_any a n c l w HL.out
  have HFR := Lib.hid (And.intro (frame_cases u p) (frame_cases v q))
  clear h2 h3 hnp hnq
  rcases open_err l with ⟨u0, l0, ho⟩ | ho | ho
  case inl =>
    have hln := open_lens ho
    rw [hlen] at hln
    have hfo := frame_open ho
    rw [ho] at hPA
    have HPA := Lib.hid hPA
    have HFO := Lib.hid hfo
    have r1 : decide ((n : Int) < 4) = false := by simp; omega
    have r2 : decide (256 < (n : Int)) = false := by simp; omega
    clear hPA ho hfo hln h1
    go_enter Try.func9, Try.ntmps9
    go_wp2_with fail
    refine HPA.out.mono ?_
    rintro e w1 ⟨a1, c1, rfl, hs, hb, -⟩
    have HB := Lib.hid hb
    have HBY := Lib.hid (Bytes_own u0 a1 _ c1 l0 w1 hs)
    rw [HFO.out] at HBY
    clear hs hb HPA
    go_wp2_with fail
    refine HBY.out.mono ?_
    rintro e w2 ⟨v2, rfl, ho2, hb2⟩
    obtain ⟨a2, c2, rfl, hs2⟩ := Sl.of_own ho2
    have HB2 := Lib.hid (HB.out.trans (hb2.mono HB.out.size))
    rw [hlen] at hs2
    have HS2 := Lib.hid hs2
    clear hb2 HBY hs2 ho2
    go_wp2_with fail
    refine (LowSame_any _ _ _ _ _ _ _ _ _ _ _ (HL.out.below HB2.out (Nat.le_refl _)) HS2.out).mono ?_
    rw [show decide (l = l) = true by simp]
    intro e w2' h
    have HW := Lib.hid (HB2.out.trans (h.below.mono HB2.out.size))
    obtain ⟨rfl, q2, rfl⟩ := h
    generalize w2.drewN q2 = W at *
    clear HS2
    go_wp2_with fail
    obtain ⟨hfu, hfv⟩ := HFR.out
    clear HFR
    rcases hfu with ⟨x, hfu, -⟩ | ⟨hfu, -⟩
    case inr =>
      have hBu := Bytes_own u ap np cp p W ((HP.out.below HW.out (Nat.le_refl _)).more HW.out.size)
      rw [hfu] at hBu
      have HBu := Lib.hid hBu
      clear hBu hfu
      refine HBu.out.mono ?_
      rintro e w3 ⟨v3, rfl, -, hb3⟩
      have HB3 := Lib.hid (HW.out.trans (hb3.mono HW.out.size))
      clear hb3 HBu
      have hBv := Bytes_own v aq nq cq q _ ((HQ.out.below HB3.out (Nat.le_refl _)).more HB3.out.size)
      have HBv := Lib.hid hBv
      clear hBv hfv
      go_wp2_with fail
      refine HBv.out.mono ?_
      rintro e w4 ⟨v4, rfl, -, hb4⟩
      have HB4 := Lib.hid (HB3.out.trans (hb4.mono HB3.out.size))
      clear hb4 HBv
      go_wp2_with fail
      refine (qawake_any _).mono ?_
      rintro e w5 ⟨rfl, hb5⟩
      have HB5 := Lib.hid (HB4.out.trans (hb5.mono HB4.out.size))
      go_wp2_with fail
      go_ret
      exact Says.mk HB5.out
    case inl =>
      have hBu := Bytes_own u ap np cp p W ((HP.out.below HW.out (Nat.le_refl _)).more HW.out.size)
      rw [hfu] at hBu
      have HBu := Lib.hid hBu
      have HFu := Lib.hid hfu
      clear hBu hfu
      refine HBu.out.mono ?_
      rintro e w3 ⟨v3, rfl, ho3, hb3⟩
      obtain ⟨a3, c3, rfl, hs3⟩ := Sl.of_own ho3
      have HB3 := Lib.hid (HW.out.trans (hb3.mono HW.out.size))
      have HS3 := Lib.hid hs3
      clear hb3 HBu hs3 ho3
      have hBv := Bytes_own v aq nq cq q _ ((HQ.out.below HB3.out (Nat.le_refl _)).more HB3.out.size)
      rcases hfv with ⟨y, hfv, -⟩ | ⟨hfv, -⟩
      case inr =>
        rw [hfv] at hBv
        have HBv := Lib.hid hBv
        clear hBv hfv HS3
        go_wp2_with fail
        refine HBv.out.mono ?_
        rintro e w4 ⟨v4, rfl, -, hb4⟩
        have HB4 := Lib.hid (HB3.out.trans (hb4.mono HB3.out.size))
        clear hb4 HBv
        go_wp2_with fail
        refine (qawake_any _).mono ?_
        rintro e w5 ⟨rfl, hb5⟩
        have HB5 := Lib.hid (HB4.out.trans (hb5.mono HB4.out.size))
        go_wp2_with fail
        go_ret
        exact Says.mk HB5.out
      case inl =>
        have hfe := frames_eq HFu.out hfv
        rw [hfv] at hBv
        have HBv := Lib.hid hBv
        clear hBv hfv
        by_cases huv : u = v
        · subst huv
          rw [decide_eq_true rfl, Bool.true_and] at hfe
          have HFE := Lib.hid hfe
          have te : ((u.toNat : Int) == (u.toNat : Int)) = true := by simp
          clear hfe
          go_wp2_with fail
          refine HBv.out.mono ?_
          rintro e w4 ⟨v4, rfl, ho4, hb4⟩
          obtain ⟨a4, c4, rfl, hs4⟩ := Sl.of_own ho4
          have HB4 := Lib.hid (HB3.out.trans (hb4.mono HB3.out.size))
          have HS4 := Lib.hid hs4
          have HS3b := Lib.hid (HS3.out.below hb4 (Nat.le_refl _))
          clear hb4 HBv hs4 ho4
          go_wp2_with fail
          refine (LowSame_any _ _ _ _ _ _ _ _ _ _ _ HS3b.out HS4.out).mono ?_
          rw [HFE.out]
          intro e w5 h
          have HB5 := Lib.hid (HB4.out.trans (h.below.mono HB4.out.size))
          obtain ⟨rfl, -⟩ := h
          have HPQ := Lib.hid (And.intro (HP.out.below HB5.out (Nat.le_refl _)) (HQ.out.below HB5.out (Nat.le_refl _)))
          obtain ⟨z, hz⟩ : ∃ z, decide (p = q) = z := ⟨_, rfl⟩
          have HZ := Lib.hid hz
          rw [hz]
          clear hz
          go_wp2_with fail
          refine (LowSame_any _ _ _ _ _ _ _ _ _ _ _ HPQ.out.1 HPQ.out.2).mono ?_
          rw [HZ.out]
          intro e w6 h
          have HB6 := Lib.hid (HB5.out.trans (h.below.mono HB5.out.size))
          obtain ⟨rfl, -⟩ := h
          have tz : (z == z) = true := by simp
          go_wp2_with fail
          refine (qawake_any _).mono ?_
          rintro e w7 ⟨rfl, hb7⟩
          have HB7 := Lib.hid (HB6.out.trans (hb7.mono HB6.out.size))
          go_wp2_with fail
          go_ret
          exact Says.mk HB7.out
        · have te := ne8 huv
          rw [decide_eq_false huv, Bool.false_and] at hfe
          have HFE := Lib.hid hfe
          clear hfe huv
          go_wp2_with fail
          refine HBv.out.mono ?_
          rintro e w4 ⟨v4, rfl, ho4, hb4⟩
          obtain ⟨a4, c4, rfl, hs4⟩ := Sl.of_own ho4
          have HB4 := Lib.hid (HB3.out.trans (hb4.mono HB3.out.size))
          have HS4 := Lib.hid hs4
          have HS3b := Lib.hid (HS3.out.below hb4 (Nat.le_refl _))
          clear hb4 HBv hs4 ho4
          go_wp2_with fail
          refine (LowSame_any _ _ _ _ _ _ _ _ _ _ _ HS3b.out HS4.out).mono ?_
          rw [HFE.out]
          intro e w5 h
          have HB5 := Lib.hid (HB4.out.trans (h.below.mono HB4.out.size))
          obtain ⟨rfl, -⟩ := h
          go_wp2_with fail
          refine (qawake_any _).mono ?_
          rintro e w7 ⟨rfl, hb7⟩
          have HB7 := Lib.hid (HB5.out.trans (hb7.mono HB5.out.size))
          go_wp2_with fail
          go_ret
          exact Says.mk HB7.out
  case inr.inl =>
    have HLN := Lib.hid hlen
    by_cases g1 : n < 4
    · have r1 : decide ((n : Int) < 4) = true := by simp; omega
      rw [ho] at hPA
      have HPA := Lib.hid hPA
      clear g1
      clear hPA ho h1 HLN
      go_enter Try.func9, Try.ntmps9
      go_wp2_with fail
      refine HPA.out.mono ?_
      rintro e W ⟨a1, c1, rfl, -, hb, -⟩
      have HW := Lib.hid hb
      clear hb HPA
      simp only [List.length_nil]
      go_wp2_with fail
      obtain ⟨hfu, hfv⟩ := HFR.out
      clear HFR
      rcases hfu with ⟨x, hfu, -⟩ | ⟨hfu, -⟩
      case inr =>
        have hBu := Bytes_own u ap np cp p W ((HP.out.below HW.out (Nat.le_refl _)).more HW.out.size)
        rw [hfu] at hBu
        have HBu := Lib.hid hBu
        clear hBu hfu
        refine HBu.out.mono ?_
        rintro e w3 ⟨v3, rfl, -, hb3⟩
        have HB3 := Lib.hid (HW.out.trans (hb3.mono HW.out.size))
        clear hb3 HBu
        have hBv := Bytes_own v aq nq cq q _ ((HQ.out.below HB3.out (Nat.le_refl _)).more HB3.out.size)
        have HBv := Lib.hid hBv
        clear hBv hfv
        go_wp2_with fail
        refine HBv.out.mono ?_
        rintro e w4 ⟨v4, rfl, -, hb4⟩
        have HB4 := Lib.hid (HB3.out.trans (hb4.mono HB3.out.size))
        clear hb4 HBv
        go_wp2_with fail
        refine (qawake_any _).mono ?_
        rintro e w5 ⟨rfl, hb5⟩
        have HB5 := Lib.hid (HB4.out.trans (hb5.mono HB4.out.size))
        go_wp2_with fail
        go_ret
        exact Says.mk HB5.out
      case inl =>
        have hBu := Bytes_own u ap np cp p W ((HP.out.below HW.out (Nat.le_refl _)).more HW.out.size)
        rw [hfu] at hBu
        have HBu := Lib.hid hBu
        have HFu := Lib.hid hfu
        clear hBu hfu
        refine HBu.out.mono ?_
        rintro e w3 ⟨v3, rfl, ho3, hb3⟩
        obtain ⟨a3, c3, rfl, hs3⟩ := Sl.of_own ho3
        have HB3 := Lib.hid (HW.out.trans (hb3.mono HW.out.size))
        have HS3 := Lib.hid hs3
        clear hb3 HBu hs3 ho3
        have hBv := Bytes_own v aq nq cq q _ ((HQ.out.below HB3.out (Nat.le_refl _)).more HB3.out.size)
        rcases hfv with ⟨y, hfv, -⟩ | ⟨hfv, -⟩
        case inr =>
          rw [hfv] at hBv
          have HBv := Lib.hid hBv
          clear hBv hfv HS3
          go_wp2_with fail
          refine HBv.out.mono ?_
          rintro e w4 ⟨v4, rfl, -, hb4⟩
          have HB4 := Lib.hid (HB3.out.trans (hb4.mono HB3.out.size))
          clear hb4 HBv
          go_wp2_with fail
          refine (qawake_any _).mono ?_
          rintro e w5 ⟨rfl, hb5⟩
          have HB5 := Lib.hid (HB4.out.trans (hb5.mono HB4.out.size))
          go_wp2_with fail
          go_ret
          exact Says.mk HB5.out
        case inl =>
          have hfe := frames_eq HFu.out hfv
          rw [hfv] at hBv
          have HBv := Lib.hid hBv
          clear hBv hfv
          by_cases huv : u = v
          · subst huv
            rw [decide_eq_true rfl, Bool.true_and] at hfe
            have HFE := Lib.hid hfe
            have te : ((u.toNat : Int) == (u.toNat : Int)) = true := by simp
            clear hfe
            go_wp2_with fail
            refine HBv.out.mono ?_
            rintro e w4 ⟨v4, rfl, ho4, hb4⟩
            obtain ⟨a4, c4, rfl, hs4⟩ := Sl.of_own ho4
            have HB4 := Lib.hid (HB3.out.trans (hb4.mono HB3.out.size))
            have HS4 := Lib.hid hs4
            have HS3b := Lib.hid (HS3.out.below hb4 (Nat.le_refl _))
            clear hb4 HBv hs4 ho4
            go_wp2_with fail
            refine (LowSame_any _ _ _ _ _ _ _ _ _ _ _ HS3b.out HS4.out).mono ?_
            rw [HFE.out]
            intro e w5 h
            have HB5 := Lib.hid (HB4.out.trans (h.below.mono HB4.out.size))
            obtain ⟨rfl, -⟩ := h
            have HPQ := Lib.hid (And.intro (HP.out.below HB5.out (Nat.le_refl _)) (HQ.out.below HB5.out (Nat.le_refl _)))
            obtain ⟨z, hz⟩ : ∃ z, decide (p = q) = z := ⟨_, rfl⟩
            have HZ := Lib.hid hz
            rw [hz]
            clear hz
            go_wp2_with fail
            refine (LowSame_any _ _ _ _ _ _ _ _ _ _ _ HPQ.out.1 HPQ.out.2).mono ?_
            rw [HZ.out]
            intro e w6 h
            have HB6 := Lib.hid (HB5.out.trans (h.below.mono HB5.out.size))
            obtain ⟨rfl, -⟩ := h
            have tz : (z == z) = true := by simp
            go_wp2_with fail
            refine (qawake_any _).mono ?_
            rintro e w7 ⟨rfl, hb7⟩
            have HB7 := Lib.hid (HB6.out.trans (hb7.mono HB6.out.size))
            go_wp2_with fail
            go_ret
            exact Says.mk HB7.out
          · have te := ne8 huv
            rw [decide_eq_false huv, Bool.false_and] at hfe
            have HFE := Lib.hid hfe
            clear hfe huv
            go_wp2_with fail
            refine HBv.out.mono ?_
            rintro e w4 ⟨v4, rfl, ho4, hb4⟩
            obtain ⟨a4, c4, rfl, hs4⟩ := Sl.of_own ho4
            have HB4 := Lib.hid (HB3.out.trans (hb4.mono HB3.out.size))
            have HS4 := Lib.hid hs4
            have HS3b := Lib.hid (HS3.out.below hb4 (Nat.le_refl _))
            clear hb4 HBv hs4 ho4
            go_wp2_with fail
            refine (LowSame_any _ _ _ _ _ _ _ _ _ _ _ HS3b.out HS4.out).mono ?_
            rw [HFE.out]
            intro e w5 h
            have HB5 := Lib.hid (HB4.out.trans (h.below.mono HB4.out.size))
            obtain ⟨rfl, -⟩ := h
            go_wp2_with fail
            refine (qawake_any _).mono ?_
            rintro e w7 ⟨rfl, hb7⟩
            have HB7 := Lib.hid (HB5.out.trans (hb7.mono HB5.out.size))
            go_wp2_with fail
            go_ret
            exact Says.mk HB7.out
    by_cases g2 : 256 < n
    · have r1 : decide ((n : Int) < 4) = false := by simp; omega
      have r2 : decide (256 < (n : Int)) = true := by simp; omega
      rw [ho] at hPA
      have HPA := Lib.hid hPA
      clear g1 g2
      clear hPA ho h1 HLN
      go_enter Try.func9, Try.ntmps9
      go_wp2_with fail
      refine HPA.out.mono ?_
      rintro e W ⟨a1, c1, rfl, -, hb, -⟩
      have HW := Lib.hid hb
      clear hb HPA
      simp only [List.length_nil]
      go_wp2_with fail
      obtain ⟨hfu, hfv⟩ := HFR.out
      clear HFR
      rcases hfu with ⟨x, hfu, -⟩ | ⟨hfu, -⟩
      case inr =>
        have hBu := Bytes_own u ap np cp p W ((HP.out.below HW.out (Nat.le_refl _)).more HW.out.size)
        rw [hfu] at hBu
        have HBu := Lib.hid hBu
        clear hBu hfu
        refine HBu.out.mono ?_
        rintro e w3 ⟨v3, rfl, -, hb3⟩
        have HB3 := Lib.hid (HW.out.trans (hb3.mono HW.out.size))
        clear hb3 HBu
        have hBv := Bytes_own v aq nq cq q _ ((HQ.out.below HB3.out (Nat.le_refl _)).more HB3.out.size)
        have HBv := Lib.hid hBv
        clear hBv hfv
        go_wp2_with fail
        refine HBv.out.mono ?_
        rintro e w4 ⟨v4, rfl, -, hb4⟩
        have HB4 := Lib.hid (HB3.out.trans (hb4.mono HB3.out.size))
        clear hb4 HBv
        go_wp2_with fail
        refine (qawake_any _).mono ?_
        rintro e w5 ⟨rfl, hb5⟩
        have HB5 := Lib.hid (HB4.out.trans (hb5.mono HB4.out.size))
        go_wp2_with fail
        go_ret
        exact Says.mk HB5.out
      case inl =>
        have hBu := Bytes_own u ap np cp p W ((HP.out.below HW.out (Nat.le_refl _)).more HW.out.size)
        rw [hfu] at hBu
        have HBu := Lib.hid hBu
        have HFu := Lib.hid hfu
        clear hBu hfu
        refine HBu.out.mono ?_
        rintro e w3 ⟨v3, rfl, ho3, hb3⟩
        obtain ⟨a3, c3, rfl, hs3⟩ := Sl.of_own ho3
        have HB3 := Lib.hid (HW.out.trans (hb3.mono HW.out.size))
        have HS3 := Lib.hid hs3
        clear hb3 HBu hs3 ho3
        have hBv := Bytes_own v aq nq cq q _ ((HQ.out.below HB3.out (Nat.le_refl _)).more HB3.out.size)
        rcases hfv with ⟨y, hfv, -⟩ | ⟨hfv, -⟩
        case inr =>
          rw [hfv] at hBv
          have HBv := Lib.hid hBv
          clear hBv hfv HS3
          go_wp2_with fail
          refine HBv.out.mono ?_
          rintro e w4 ⟨v4, rfl, -, hb4⟩
          have HB4 := Lib.hid (HB3.out.trans (hb4.mono HB3.out.size))
          clear hb4 HBv
          go_wp2_with fail
          refine (qawake_any _).mono ?_
          rintro e w5 ⟨rfl, hb5⟩
          have HB5 := Lib.hid (HB4.out.trans (hb5.mono HB4.out.size))
          go_wp2_with fail
          go_ret
          exact Says.mk HB5.out
        case inl =>
          have hfe := frames_eq HFu.out hfv
          rw [hfv] at hBv
          have HBv := Lib.hid hBv
          clear hBv hfv
          by_cases huv : u = v
          · subst huv
            rw [decide_eq_true rfl, Bool.true_and] at hfe
            have HFE := Lib.hid hfe
            have te : ((u.toNat : Int) == (u.toNat : Int)) = true := by simp
            clear hfe
            go_wp2_with fail
            refine HBv.out.mono ?_
            rintro e w4 ⟨v4, rfl, ho4, hb4⟩
            obtain ⟨a4, c4, rfl, hs4⟩ := Sl.of_own ho4
            have HB4 := Lib.hid (HB3.out.trans (hb4.mono HB3.out.size))
            have HS4 := Lib.hid hs4
            have HS3b := Lib.hid (HS3.out.below hb4 (Nat.le_refl _))
            clear hb4 HBv hs4 ho4
            go_wp2_with fail
            refine (LowSame_any _ _ _ _ _ _ _ _ _ _ _ HS3b.out HS4.out).mono ?_
            rw [HFE.out]
            intro e w5 h
            have HB5 := Lib.hid (HB4.out.trans (h.below.mono HB4.out.size))
            obtain ⟨rfl, -⟩ := h
            have HPQ := Lib.hid (And.intro (HP.out.below HB5.out (Nat.le_refl _)) (HQ.out.below HB5.out (Nat.le_refl _)))
            obtain ⟨z, hz⟩ : ∃ z, decide (p = q) = z := ⟨_, rfl⟩
            have HZ := Lib.hid hz
            rw [hz]
            clear hz
            go_wp2_with fail
            refine (LowSame_any _ _ _ _ _ _ _ _ _ _ _ HPQ.out.1 HPQ.out.2).mono ?_
            rw [HZ.out]
            intro e w6 h
            have HB6 := Lib.hid (HB5.out.trans (h.below.mono HB5.out.size))
            obtain ⟨rfl, -⟩ := h
            have tz : (z == z) = true := by simp
            go_wp2_with fail
            refine (qawake_any _).mono ?_
            rintro e w7 ⟨rfl, hb7⟩
            have HB7 := Lib.hid (HB6.out.trans (hb7.mono HB6.out.size))
            go_wp2_with fail
            go_ret
            exact Says.mk HB7.out
          · have te := ne8 huv
            rw [decide_eq_false huv, Bool.false_and] at hfe
            have HFE := Lib.hid hfe
            clear hfe huv
            go_wp2_with fail
            refine HBv.out.mono ?_
            rintro e w4 ⟨v4, rfl, ho4, hb4⟩
            obtain ⟨a4, c4, rfl, hs4⟩ := Sl.of_own ho4
            have HB4 := Lib.hid (HB3.out.trans (hb4.mono HB3.out.size))
            have HS4 := Lib.hid hs4
            have HS3b := Lib.hid (HS3.out.below hb4 (Nat.le_refl _))
            clear hb4 HBv hs4 ho4
            go_wp2_with fail
            refine (LowSame_any _ _ _ _ _ _ _ _ _ _ _ HS3b.out HS4.out).mono ?_
            rw [HFE.out]
            intro e w5 h
            have HB5 := Lib.hid (HB4.out.trans (h.below.mono HB4.out.size))
            obtain ⟨rfl, -⟩ := h
            go_wp2_with fail
            refine (qawake_any _).mono ?_
            rintro e w7 ⟨rfl, hb7⟩
            have HB7 := Lib.hid (HB5.out.trans (hb7.mono HB5.out.size))
            go_wp2_with fail
            go_ret
            exact Says.mk HB7.out
    have r1 : decide ((n : Int) < 4) = false := by simp; omega
    have r2 : decide (256 < (n : Int)) = false := by simp; omega
    rw [ho] at hPA
    have HPA := Lib.hid hPA
    clear g1 g2
    clear hPA ho h1 HLN
    go_enter Try.func9, Try.ntmps9
    go_wp2_with fail
    refine HPA.out.mono ?_
    rintro e W ⟨a1, c1, rfl, -, hb, -⟩
    have HW := Lib.hid hb
    clear hb HPA
    simp only [List.length_nil]
    go_wp2_with fail
    obtain ⟨hfu, hfv⟩ := HFR.out
    clear HFR
    rcases hfu with ⟨x, hfu, -⟩ | ⟨hfu, -⟩
    case inr =>
      have hBu := Bytes_own u ap np cp p W ((HP.out.below HW.out (Nat.le_refl _)).more HW.out.size)
      rw [hfu] at hBu
      have HBu := Lib.hid hBu
      clear hBu hfu
      refine HBu.out.mono ?_
      rintro e w3 ⟨v3, rfl, -, hb3⟩
      have HB3 := Lib.hid (HW.out.trans (hb3.mono HW.out.size))
      clear hb3 HBu
      have hBv := Bytes_own v aq nq cq q _ ((HQ.out.below HB3.out (Nat.le_refl _)).more HB3.out.size)
      have HBv := Lib.hid hBv
      clear hBv hfv
      go_wp2_with fail
      refine HBv.out.mono ?_
      rintro e w4 ⟨v4, rfl, -, hb4⟩
      have HB4 := Lib.hid (HB3.out.trans (hb4.mono HB3.out.size))
      clear hb4 HBv
      go_wp2_with fail
      refine (qawake_any _).mono ?_
      rintro e w5 ⟨rfl, hb5⟩
      have HB5 := Lib.hid (HB4.out.trans (hb5.mono HB4.out.size))
      go_wp2_with fail
      go_ret
      exact Says.mk HB5.out
    case inl =>
      have hBu := Bytes_own u ap np cp p W ((HP.out.below HW.out (Nat.le_refl _)).more HW.out.size)
      rw [hfu] at hBu
      have HBu := Lib.hid hBu
      have HFu := Lib.hid hfu
      clear hBu hfu
      refine HBu.out.mono ?_
      rintro e w3 ⟨v3, rfl, ho3, hb3⟩
      obtain ⟨a3, c3, rfl, hs3⟩ := Sl.of_own ho3
      have HB3 := Lib.hid (HW.out.trans (hb3.mono HW.out.size))
      have HS3 := Lib.hid hs3
      clear hb3 HBu hs3 ho3
      have hBv := Bytes_own v aq nq cq q _ ((HQ.out.below HB3.out (Nat.le_refl _)).more HB3.out.size)
      rcases hfv with ⟨y, hfv, -⟩ | ⟨hfv, -⟩
      case inr =>
        rw [hfv] at hBv
        have HBv := Lib.hid hBv
        clear hBv hfv HS3
        go_wp2_with fail
        refine HBv.out.mono ?_
        rintro e w4 ⟨v4, rfl, -, hb4⟩
        have HB4 := Lib.hid (HB3.out.trans (hb4.mono HB3.out.size))
        clear hb4 HBv
        go_wp2_with fail
        refine (qawake_any _).mono ?_
        rintro e w5 ⟨rfl, hb5⟩
        have HB5 := Lib.hid (HB4.out.trans (hb5.mono HB4.out.size))
        go_wp2_with fail
        go_ret
        exact Says.mk HB5.out
      case inl =>
        have hfe := frames_eq HFu.out hfv
        rw [hfv] at hBv
        have HBv := Lib.hid hBv
        clear hBv hfv
        by_cases huv : u = v
        · subst huv
          rw [decide_eq_true rfl, Bool.true_and] at hfe
          have HFE := Lib.hid hfe
          have te : ((u.toNat : Int) == (u.toNat : Int)) = true := by simp
          clear hfe
          go_wp2_with fail
          refine HBv.out.mono ?_
          rintro e w4 ⟨v4, rfl, ho4, hb4⟩
          obtain ⟨a4, c4, rfl, hs4⟩ := Sl.of_own ho4
          have HB4 := Lib.hid (HB3.out.trans (hb4.mono HB3.out.size))
          have HS4 := Lib.hid hs4
          have HS3b := Lib.hid (HS3.out.below hb4 (Nat.le_refl _))
          clear hb4 HBv hs4 ho4
          go_wp2_with fail
          refine (LowSame_any _ _ _ _ _ _ _ _ _ _ _ HS3b.out HS4.out).mono ?_
          rw [HFE.out]
          intro e w5 h
          have HB5 := Lib.hid (HB4.out.trans (h.below.mono HB4.out.size))
          obtain ⟨rfl, -⟩ := h
          have HPQ := Lib.hid (And.intro (HP.out.below HB5.out (Nat.le_refl _)) (HQ.out.below HB5.out (Nat.le_refl _)))
          obtain ⟨z, hz⟩ : ∃ z, decide (p = q) = z := ⟨_, rfl⟩
          have HZ := Lib.hid hz
          rw [hz]
          clear hz
          go_wp2_with fail
          refine (LowSame_any _ _ _ _ _ _ _ _ _ _ _ HPQ.out.1 HPQ.out.2).mono ?_
          rw [HZ.out]
          intro e w6 h
          have HB6 := Lib.hid (HB5.out.trans (h.below.mono HB5.out.size))
          obtain ⟨rfl, -⟩ := h
          have tz : (z == z) = true := by simp
          go_wp2_with fail
          refine (qawake_any _).mono ?_
          rintro e w7 ⟨rfl, hb7⟩
          have HB7 := Lib.hid (HB6.out.trans (hb7.mono HB6.out.size))
          go_wp2_with fail
          go_ret
          exact Says.mk HB7.out
        · have te := ne8 huv
          rw [decide_eq_false huv, Bool.false_and] at hfe
          have HFE := Lib.hid hfe
          clear hfe huv
          go_wp2_with fail
          refine HBv.out.mono ?_
          rintro e w4 ⟨v4, rfl, ho4, hb4⟩
          obtain ⟨a4, c4, rfl, hs4⟩ := Sl.of_own ho4
          have HB4 := Lib.hid (HB3.out.trans (hb4.mono HB3.out.size))
          have HS4 := Lib.hid hs4
          have HS3b := Lib.hid (HS3.out.below hb4 (Nat.le_refl _))
          clear hb4 HBv hs4 ho4
          go_wp2_with fail
          refine (LowSame_any _ _ _ _ _ _ _ _ _ _ _ HS3b.out HS4.out).mono ?_
          rw [HFE.out]
          intro e w5 h
          have HB5 := Lib.hid (HB4.out.trans (h.below.mono HB4.out.size))
          obtain ⟨rfl, -⟩ := h
          go_wp2_with fail
          refine (qawake_any _).mono ?_
          rintro e w7 ⟨rfl, hb7⟩
          have HB7 := Lib.hid (HB5.out.trans (hb7.mono HB5.out.size))
          go_wp2_with fail
          go_ret
          exact Says.mk HB7.out
  case inr.inr =>
    have HLN := Lib.hid hlen
    have hln := open_lens11 ho
    rw [hlen] at hln
    have r1 : decide ((n : Int) < 4) = false := by simp; omega
    have r2 : decide (256 < (n : Int)) = false := by simp; omega
    rw [ho] at hPA
    have HPA := Lib.hid hPA
    clear hln
    clear hPA ho h1 HLN
    go_enter Try.func9, Try.ntmps9
    go_wp2_with fail
    refine HPA.out.mono ?_
    rintro e W ⟨a1, c1, rfl, -, hb, -⟩
    have HW := Lib.hid hb
    clear hb HPA
    simp only [List.length_nil]
    go_wp2_with fail
    obtain ⟨hfu, hfv⟩ := HFR.out
    clear HFR
    rcases hfu with ⟨x, hfu, -⟩ | ⟨hfu, -⟩
    case inr =>
      have hBu := Bytes_own u ap np cp p W ((HP.out.below HW.out (Nat.le_refl _)).more HW.out.size)
      rw [hfu] at hBu
      have HBu := Lib.hid hBu
      clear hBu hfu
      refine HBu.out.mono ?_
      rintro e w3 ⟨v3, rfl, -, hb3⟩
      have HB3 := Lib.hid (HW.out.trans (hb3.mono HW.out.size))
      clear hb3 HBu
      have hBv := Bytes_own v aq nq cq q _ ((HQ.out.below HB3.out (Nat.le_refl _)).more HB3.out.size)
      have HBv := Lib.hid hBv
      clear hBv hfv
      go_wp2_with fail
      refine HBv.out.mono ?_
      rintro e w4 ⟨v4, rfl, -, hb4⟩
      have HB4 := Lib.hid (HB3.out.trans (hb4.mono HB3.out.size))
      clear hb4 HBv
      go_wp2_with fail
      refine (qawake_any _).mono ?_
      rintro e w5 ⟨rfl, hb5⟩
      have HB5 := Lib.hid (HB4.out.trans (hb5.mono HB4.out.size))
      go_wp2_with fail
      go_ret
      exact Says.mk HB5.out
    case inl =>
      have hBu := Bytes_own u ap np cp p W ((HP.out.below HW.out (Nat.le_refl _)).more HW.out.size)
      rw [hfu] at hBu
      have HBu := Lib.hid hBu
      have HFu := Lib.hid hfu
      clear hBu hfu
      refine HBu.out.mono ?_
      rintro e w3 ⟨v3, rfl, ho3, hb3⟩
      obtain ⟨a3, c3, rfl, hs3⟩ := Sl.of_own ho3
      have HB3 := Lib.hid (HW.out.trans (hb3.mono HW.out.size))
      have HS3 := Lib.hid hs3
      clear hb3 HBu hs3 ho3
      have hBv := Bytes_own v aq nq cq q _ ((HQ.out.below HB3.out (Nat.le_refl _)).more HB3.out.size)
      rcases hfv with ⟨y, hfv, -⟩ | ⟨hfv, -⟩
      case inr =>
        rw [hfv] at hBv
        have HBv := Lib.hid hBv
        clear hBv hfv HS3
        go_wp2_with fail
        refine HBv.out.mono ?_
        rintro e w4 ⟨v4, rfl, -, hb4⟩
        have HB4 := Lib.hid (HB3.out.trans (hb4.mono HB3.out.size))
        clear hb4 HBv
        go_wp2_with fail
        refine (qawake_any _).mono ?_
        rintro e w5 ⟨rfl, hb5⟩
        have HB5 := Lib.hid (HB4.out.trans (hb5.mono HB4.out.size))
        go_wp2_with fail
        go_ret
        exact Says.mk HB5.out
      case inl =>
        have hfe := frames_eq HFu.out hfv
        rw [hfv] at hBv
        have HBv := Lib.hid hBv
        clear hBv hfv
        by_cases huv : u = v
        · subst huv
          rw [decide_eq_true rfl, Bool.true_and] at hfe
          have HFE := Lib.hid hfe
          have te : ((u.toNat : Int) == (u.toNat : Int)) = true := by simp
          clear hfe
          go_wp2_with fail
          refine HBv.out.mono ?_
          rintro e w4 ⟨v4, rfl, ho4, hb4⟩
          obtain ⟨a4, c4, rfl, hs4⟩ := Sl.of_own ho4
          have HB4 := Lib.hid (HB3.out.trans (hb4.mono HB3.out.size))
          have HS4 := Lib.hid hs4
          have HS3b := Lib.hid (HS3.out.below hb4 (Nat.le_refl _))
          clear hb4 HBv hs4 ho4
          go_wp2_with fail
          refine (LowSame_any _ _ _ _ _ _ _ _ _ _ _ HS3b.out HS4.out).mono ?_
          rw [HFE.out]
          intro e w5 h
          have HB5 := Lib.hid (HB4.out.trans (h.below.mono HB4.out.size))
          obtain ⟨rfl, -⟩ := h
          have HPQ := Lib.hid (And.intro (HP.out.below HB5.out (Nat.le_refl _)) (HQ.out.below HB5.out (Nat.le_refl _)))
          obtain ⟨z, hz⟩ : ∃ z, decide (p = q) = z := ⟨_, rfl⟩
          have HZ := Lib.hid hz
          rw [hz]
          clear hz
          go_wp2_with fail
          refine (LowSame_any _ _ _ _ _ _ _ _ _ _ _ HPQ.out.1 HPQ.out.2).mono ?_
          rw [HZ.out]
          intro e w6 h
          have HB6 := Lib.hid (HB5.out.trans (h.below.mono HB5.out.size))
          obtain ⟨rfl, -⟩ := h
          have tz : (z == z) = true := by simp
          go_wp2_with fail
          refine (qawake_any _).mono ?_
          rintro e w7 ⟨rfl, hb7⟩
          have HB7 := Lib.hid (HB6.out.trans (hb7.mono HB6.out.size))
          go_wp2_with fail
          go_ret
          exact Says.mk HB7.out
        · have te := ne8 huv
          rw [decide_eq_false huv, Bool.false_and] at hfe
          have HFE := Lib.hid hfe
          clear hfe huv
          go_wp2_with fail
          refine HBv.out.mono ?_
          rintro e w4 ⟨v4, rfl, ho4, hb4⟩
          obtain ⟨a4, c4, rfl, hs4⟩ := Sl.of_own ho4
          have HB4 := Lib.hid (HB3.out.trans (hb4.mono HB3.out.size))
          have HS4 := Lib.hid hs4
          have HS3b := Lib.hid (HS3.out.below hb4 (Nat.le_refl _))
          clear hb4 HBv hs4 ho4
          go_wp2_with fail
          refine (LowSame_any _ _ _ _ _ _ _ _ _ _ _ HS3b.out HS4.out).mono ?_
          rw [HFE.out]
          intro e w5 h
          have HB5 := Lib.hid (HB4.out.trans (h.below.mono HB4.out.size))
          obtain ⟨rfl, -⟩ := h
          go_wp2_with fail
          refine (qawake_any _).mono ?_
          rintro e w7 ⟨rfl, hb7⟩
          have HB7 := Lib.hid (HB5.out.trans (hb7.mono HB5.out.size))
          go_wp2_with fail
          go_ret
          exact Says.mk HB7.out
theorem RtuOne_walk (a : Option Addr) (n c : Nat) (l : List UInt8) (x1 x2 : Nat) (ap : Option Addr) (np cp : Nat) (p : List UInt8) (aq : Option Addr) (nq cq : Nat) (q : List UInt8) (w : World)
    (hl : Sl b8 w w.heap.size a n c l) (h1 : x1 < 256) (h2 : x2 < 256) (hp : Sl b8 w w.heap.size ap np cp p) (hq : Sl b8 w w.heap.size aq nq cq q) :
    Calls Try.prog 9 #[.slice a n c, .int .u8 (x1 : Int), .int .u8 (x2 : Int), .slice ap np cp, .slice aq nq cq] w (Says (.bool true) w) := by
  have h := RtuOne_u a n c l (UInt8.ofNat x1) (UInt8.ofNat x2) ap np cp p aq nq cq q w hl hp hq
  rwa [show b8 (UInt8.ofNat x1) = .int .u8 (x1 : Int) by unfold b8; congr 1; simp; omega, show b8 (UInt8.ofNat x2) = .int .u8 (x2 : Int) by unfold b8; congr 1; simp; omega] at h
end Go.Proofs.Ytiecncnmmecjcaa.RtuW
