/- The laws of layer 1, walked. -/
import Derived.Test.YtedpfdjjohfioaaCrcAwake
open Go.RowKit
namespace Go.Proofs.Ytedpfdjjohfioaa.CrcW
open CrcM Mem

theorem beq_nat (a b : Nat) : ((a : Int) == (b : Int)) = decide (a = b) := by
  rw [Bool.eq_iff_iff]; simp; omega

set_option maxHeartbeats 1000000 in
theorem CrcOne_walk (s t c d : Nat) (w : World) (hs : s < 65536) (ht : t < 65536) (hc : c < 256) (hd : d < 256) :
    Calls Try.prog 6 #[.int .u16 s, .int .u16 t, .int .u8 c, .int .u8 d] w (Says (.bool true) w) := by
  have E1 := Lib.hid (show (((nextN s c : Nat) : Int) == ((nextN t c : Nat) : Int)) = ((s : Int) == (t : Int)) by rw [beq_nat, beq_nat]; simp [nextN_inj_left hs ht (show c < 65536 by omega)])
  have E2 := Lib.hid (show (((nextN s c : Nat) : Int) == ((nextN s d : Nat) : Int)) = ((c : Int) == (d : Int)) by rw [beq_nat, beq_nat]; simp [nextN_inj_right hs (show c < 65536 by omega) (show d < 65536 by omega)])
  go_enter Try.func6, Try.ntmps6
  go_wp2_with fail
  refine (Next_any s c hs hc _).mono ?_
  rintro e w1 ⟨rfl, b1⟩
  go_wp2_with fail
  refine (Next_any t c ht hc _).mono ?_
  rintro e w2 ⟨rfl, b2⟩
  have E1 := E1.out
  go_wp2_with fail
  clear E1
  refine (Next_any s c hs hc _).mono ?_
  rintro e w3 ⟨rfl, b3⟩
  go_wp2_with fail
  refine (Next_any s d hs hd _).mono ?_
  rintro e w4 ⟨rfl, b4⟩
  have E2 := E2.out
  go_wp2_with fail
  clear E2
  refine (awake_any _).mono ?_
  rintro e w5 ⟨rfl, b5⟩
  go_wp2
  go_ret
  have Z1 := b1.size
  have Z2 := b2.size
  have Z3 := b3.size
  have Z4 := b4.size
  exact Says.mk ((((b1.trans (b2.mono Z1)).trans (b3.mono (by omega))).trans (b4.mono (by omega))).trans (b5.mono (by omega)))

set_option maxHeartbeats 1000000 in
theorem CrcParts_walk (a : Option Addr) (n c : Nat) (l : List UInt8) (k : Nat) (w : World) (hl : Sl b8 w w.heap.size a n c l) (hk : k < 65536) :
    Calls Try.prog 4 #[.slice a n c, .int .u16 k] w (Says (.bool true) w) := by
  have hnc : n ≤ c := hl.nle
  have hcm : c ≤ 9223372036854775807 := by have h1 := hl.cle; unfold maxLen at h1; omega
  by_cases hn : 300 < n
  · go_enter Try.func4, Try.ntmps4
    go_wp2_with fail
    refine (awake_any _).mono ?_
    rintro e w1 ⟨rfl, b1⟩
    go_wp2
    go_ret
    exact Says.mk b1
  · obtain ⟨j, hj, hjn⟩ : ∃ j : Nat, (k : Int) % ((n : Int) + 1) = (j : Int) ∧ j ≤ n := ⟨k % (n + 1), by simp, by have := Nat.mod_lt k (show 0 < n + 1 by omega); omega⟩
    have hT := hl.take_ hjn
    have hF := hl.from_ hjn
    obtain ⟨A, hA⟩ : ∃ A, (if c = j then a else a.map fun x => x.add j) = A := ⟨_, rfl⟩
    rw [hA] at hF
    go_enter Try.func4, Try.ntmps4
    go_wp2_with fail
    refine (Sum_any a j c _ w hT).mono ?_
    rintro e w1 ⟨rfl, b1⟩
    clear hT
    go_wp2_with fail
    clear hA
    have hF1 := hF.below b1 (Nat.le_refl _)
    have hdl := hF.len
    have Hdl := Lib.hid hdl
    clear hF hdl
    have hz1 := b1.size
    go_loopw [6, 27] (fun s i wr => ∃ i' : Nat, i' ≤ n - j ∧ i = .int .i64 i' ∧ s = .int .u16 (sumFrom (sumN (l.take j)) ((l.drop j).take i')) ∧ Below w.heap.size w wr ∧ Sl b8 wr w.heap.size A (n - j) (c - j) (l.drop j)) (fun _ i _ => (n - j) - (intOf i).toNat)
    case atStart => exact ⟨0, by omega, rfl, rfl, b1, hF1⟩
    case round =>
      obtain ⟨i, hi, rfl, rfl, hbr, hSr⟩ := hrel
      have hs := sumFrom_lt ((l.drop j).take i) (sumN_lt (l.take j))
      by_cases hlt : i < n - j
      · obtain ⟨b, off, x, rfl, hbk, hx, hcell⟩ := hSr.at_ hlt
        have HS := Lib.hid (sumFrom_take (sumN (l.take j)) (l.drop j) hx)
        have hx8 := x.toNat_lt
        have hSr' := Lib.hid hSr
        clear hSr
        generalize hS : sumFrom (sumN (l.take j)) ((l.drop j).take i) = S at *
        have HS2 := Lib.hid hS
        clear hS hx hl hF1
        have hb : decide ((i : Int) < ((n - j : Nat) : Int)) = true := by simp; omega
        go_wp2_with (go_at_call 10; refine (Next_any S x.toNat hs hx8 _).mono ?_; rintro e w2 ⟨rfl, b2⟩)
        have hbz := hbr.size
        go_roundw
        case rel => exact ⟨i + 1, by omega, by go_num, by rw [HS.out], hbr.trans (b2.mono hbz), hSr'.out.below b2 hbz⟩
        case measure => simp [intOf]; omega
      · obtain rfl : i = n - j := by omega
        have hsum : sumFrom (sumN (l.take j)) ((l.drop j).take (n - j)) = sumN l := by
          rw [List.take_of_length_le (l := l.drop j) (i := n - j) (by rw [Hdl.out]; exact Nat.le_refl _)]
          unfold sumN
          rw [← sumFrom_append, List.take_append_drop]
        rw [hsum] at hs ⊢
        clear hsum hSr
        have hb : decide (((n - j : Nat) : Int) < ((n - j : Nat) : Int)) = false := by simp
        have hzr := hbr.size
        have hlr := (hl.below hbr (Nat.le_refl _)).more hzr
        go_wp2_with fail
        refine (Sum_any a n c l wr hlr).mono ?_
        rintro e w2 ⟨rfl, b2⟩
        have B2 := hbr.trans (b2.mono hzr)
        have Z2 := B2.size
        have hl2 := (hl.below B2 (Nat.le_refl _)).more Z2
        clear hlr b2 hb
        go_wp2_with fail
        refine (Put_any a n c l w2 hl2 (by omega)).mono ?_
        rintro e w3 ⟨a3, c3, rfl, s3, b3⟩
        have B3 := B2.trans (b3.mono Z2)
        have Z3 := B3.size
        clear b3 hl2
        go_wp2_with fail
        refine (Sum_any a3 _ c3 _ w3 s3).mono ?_
        rw [show sumN (putN l) = 0 from sumN_own l]
        rintro e w4 ⟨rfl, b4⟩
        have B4 := B3.trans (b4.mono Z3)
        have Z4 := B4.size
        clear b4 s3
        go_wp2_with fail
        refine (awake_any _).mono ?_
        rintro e w5 ⟨rfl, b5⟩
        go_wp2
        go_ret
        exact Says.mk (B4.trans (b5.mono Z4))

set_option maxHeartbeats 1000000 in
theorem CrcTells_walk (a : Option Addr) (n c : Nat) (l : List UInt8) (s x : Nat) (w : World) (hl : Sl b8 w w.heap.size a n c l) (hs : s < 65536) (hx : x < 256) :
    Calls Try.prog 3 #[.slice a n c, .int .u16 s, .int .u8 x] w (Says (.bool true) w) := by
  obtain ⟨i0, hi, hz0, hz1, hz2⟩ := info_parts info8
  by_cases hn : 600 < n
  · go_enter Try.func3, Try.ntmps3
    go_wp2_with fail
    refine (awake_any _).mono ?_
    rintro e w1 ⟨rfl, b1⟩
    go_wp2
    go_ret
    exact Says.mk b1
  · have hlen := Lib.hid hl.len
    go_enter Try.func3, Try.ntmps3
    go_wp2_with (at_builtin; refine wpList_append_sl (f := b8) b8_one rfl (.tmp 16) (.tmp 17) 22 rfl w.heap.size 5 i0 (.int .u8 0) 1 Try.underlying22 hi hz0 hz1 hz2 rfl (.slice (some ⟨w.heap.size, 0, none⟩) 0 0) 0 [] rfl (World.ownsRow_made w #[] 0 (Nat.le_refl _) (by unfold maxLen; omega) rfl) a n c rfl (hl.alloc (Nat.le_refl _) _) (by unfold maxLen; omega) (by omega) (by simp) ?_; intro v1 w1 hown1 hgrow1; simp only [Nat.zero_add, List.nil_append] at hown1; obtain ⟨a1, c1, hv1, s1⟩ := Sl.of_own hown1; subst hv1; have B1 := Lib.hid (((Below.refl w.heap.size w).alloc (Nat.le_refl _) (.cells #[] 5)).grown hgrow1 (by simp) (by simp [Value.ownBlock])); clear hown1 hgrow1)
    have B1 := B1.out
    have Z1 := B1.size
    have hN : n ≤ 1000000 := by omega
    refine (Cut_any a1 n c1 l w1 s1 hN).mono ?_
    rintro e w2 ⟨a2, c2, rfl, r2, b2⟩
    have S2 := s1.below b2 (Nat.le_refl _)
    have Y2 : w1.heap.size ≤ w2.heap.size := b2.size
    have B2 := B1.trans (b2.mono Z1)
    have Z2 := B2.size
    clear s1 B1 b2
    generalize hr : cutN l = r at *
    have Hr := Lib.hid hr
    clear hr
    go_wp2_with fail
    refine (refCut_any a n c l w2 ((hl.below B2 (Nat.le_refl _)).more Z2) hN).mono ?_
    rw [Hr.out]
    rintro e w3 ⟨a3, c3, rfl, r3, b3⟩
    have S3 := S2.below b3 Y2
    have R3 := r2.below b3 (Nat.le_refl _)
    have Y3 : w1.heap.size ≤ w3.heap.size := Nat.le_trans Y2 b3.size
    have V3 : w2.heap.size ≤ w3.heap.size := b3.size
    have B3 := B2.trans (b3.mono Z2)
    have Z3 := B3.size
    clear S2 r2 B2 b3
    go_wp2_with fail
    refine (Next_any s x hs hx w3).mono ?_
    rintro e w4 ⟨rfl, b4⟩
    have S4 := S3.below b4 Y3
    have R4 := R3.below b4 V3
    have T4 := r3.below b4 (Nat.le_refl _)
    have Y4 : w1.heap.size ≤ w4.heap.size := Nat.le_trans Y3 b4.size
    have V4 : w2.heap.size ≤ w4.heap.size := Nat.le_trans V3 b4.size
    have U4 : w3.heap.size ≤ w4.heap.size := b4.size
    have B4 := B3.trans (b4.mono Z3)
    have Z4 := B4.size
    clear S3 R3 r3 B3 b4
    go_wp2_with fail
    refine (refNext_nat s x hs hx w4).mono ?_
    rintro e w4' ⟨rfl, rfl⟩
    go_wp2_with fail
    refine (Sum_any a1 n c1 l w4 (S4.more Y4)).mono ?_
    rintro e w5 ⟨rfl, b5⟩
    have S5 := S4.below b5 Y4
    have R5 := R4.below b5 V4
    have T5 := T4.below b5 U4
    have Y5 : w1.heap.size ≤ w5.heap.size := Nat.le_trans Y4 b5.size
    have V5 : w2.heap.size ≤ w5.heap.size := Nat.le_trans V4 b5.size
    have U5 : w3.heap.size ≤ w5.heap.size := Nat.le_trans U4 b5.size
    have B5 := B4.trans (b5.mono Z4)
    have Z5 := B5.size
    clear S4 R4 T4 B4 b5
    go_wp2_with fail
    refine (refSum_any w.heap.size a n c l w5 (hl.below B5 (Nat.le_refl _))).mono ?_
    rintro e w5' ⟨rfl, rfl⟩
    go_wp2_with fail
    refine (Put_any a1 n c1 l w5 (S5.more Y5) hN).mono ?_
    rintro e w6 ⟨a6, c6, rfl, P6, b6⟩
    have S6 := S5.below b6 Y5
    have R6 := R5.below b6 V5
    have T6 := T5.below b6 U5
    have Y6 : w1.heap.size ≤ w6.heap.size := Nat.le_trans Y5 b6.size
    have V6 : w2.heap.size ≤ w6.heap.size := Nat.le_trans V5 b6.size
    have U6 : w3.heap.size ≤ w6.heap.size := Nat.le_trans U5 b6.size
    have B6 := B5.trans (b6.mono Z5)
    have Z6 := B6.size
    clear S5 R5 T5 B5 b6
    go_wp2_with fail
    refine (refPut_any a n c l w6 ((hl.below B6 (Nat.le_refl _)).more Z6) hN).mono ?_
    rintro e w7 ⟨a7, c7, rfl, Q7, b7⟩
    have P7 := P6.below b7 (Nat.le_refl _)
    have S7 := S6.below b7 Y6
    have R7 := R6.below b7 V6
    have T7 := T6.below b7 U6
    have B7 := B6.trans (b7.mono Z6)
    have Z7 := B7.size
    clear S6 R6 T6 B6 b7 P6
    generalize putN l = m at *
    go_wp2_with fail
    refine (Same_any _ _ a6 a7 _ c6 _ c7 m m w7 P7 Q7).mono ?_
    rw [show decide (m = m) = true by simp]
    rintro e w7' ⟨rfl, rfl⟩
    go_wp2_with fail
    refine (Same_any _ _ a2 a3 _ c2 _ c3 r.2 r.2 w7 R7 T7).mono ?_
    rw [show decide (r.2 = r.2) = true by simp]
    rintro e w7' ⟨rfl, rfl⟩
    go_wp2_with fail
    refine (Same_any _ _ a1 a n c1 n c l l w7 S7 (hl.below B7 (Nat.le_refl _))).mono ?_
    rw [show decide (l = l) = true by simp]
    rintro e w7' ⟨rfl, rfl⟩
    go_wp2_with fail
    refine (awake_any _).mono ?_
    rintro e w8 ⟨rfl, b8'⟩
    go_wp2
    go_ret
    exact Says.mk (B7.trans (b8'.mono Z7))
end Go.Proofs.Ytedpfdjjohfioaa.CrcW
