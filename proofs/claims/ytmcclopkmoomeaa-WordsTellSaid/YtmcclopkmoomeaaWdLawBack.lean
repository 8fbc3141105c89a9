/- What is packed is told again. -/
import Derived.Test.YtmcclopkmoomeaaWdAwake
open Go.RowKit
namespace Go.Proofs.Ytmcclopkmoomeaa.WdW
open AskM WdM Mem

/-- The arguments, all along. -/
structure ArgsB (a0 : Option Addr) (n0 c0 : Nat) (l0 : List Bool) (a1 : Option Addr) (n1 c1 : Nat) (l1 : List UInt16) (a4 : Option Addr) (n4 c4 : Nat) (l4 : List UInt8) (w W : World) : Prop where
  bools : Sl Value.bool W W.heap.size a0 n0 c0 l0
  regs : Sl b16 W W.heap.size a1 n1 c1 l1
  bytes : Sl b8 W W.heap.size a4 n4 c4 l4
  below : Below w.heap.size w W
section
variable {a0 a1 a4 : Option Addr} {n0 c0 n1 c1 n4 c4 : Nat} {l0 : List Bool} {l1 : List UInt16} {l4 : List UInt8} {w W W' : World}
theorem ArgsB.on (h : ArgsB a0 n0 c0 l0 a1 n1 c1 l1 a4 n4 c4 l4 w W) (hb : Below W.heap.size W W') : ArgsB a0 n0 c0 l0 a1 n1 c1 l1 a4 n4 c4 l4 w W' :=
  ⟨h.bools.on hb, h.regs.on hb, h.bytes.on hb, h.below.trans (hb.mono h.below.size)⟩
theorem ArgsB.drewN (h : ArgsB a0 n0 c0 l0 a1 n1 c1 l1 a4 n4 c4 l4 w W) (q : Nat) : ArgsB a0 n0 c0 l0 a1 n1 c1 l1 a4 n4 c4 l4 w (W.drewN q) := h.on (below_drawn (Below.refl _ _) q)
end
theorem even_eq (n : Nat) : (decide (n % 2 = 0) == ((n : Int) % 2 == 0)) = true := by
  rw [beq_iff_eq, Bool.eq_iff_iff]; simp; omega
theorem regs_put (l : List UInt16) : regsN (putN l) = l := by
  unfold regsN
  rw [if_pos (by rw [length_putN]; omega), nums_put]
set_option maxRecDepth 100000 in
set_option maxHeartbeats 4000000 in
theorem WordsBack_walk (a0 : Option Addr) (n0 c0 : Nat) (l0 : List Bool) (a1 : Option Addr) (n1 c1 : Nat) (l1 : List UInt16) (x2 x3 : Nat) (a4 : Option Addr) (n4 c4 : Nat) (l4 : List UInt8) (x5 : Nat) (w : World)
    (h0 : Sl Value.bool w w.heap.size a0 n0 c0 l0) (h1 : Sl b16 w w.heap.size a1 n1 c1 l1) (b2 : x2 < 4294967296) (b3 : x3 < 65536) (h4 : Sl b8 w w.heap.size a4 n4 c4 l4) (b5 : x5 < 65536) :
    Calls Try.prog 4 #[.slice a0 n0 c0, .slice a1 n1 c1, .int .u32 (x2 : Int), .int .u16 (x3 : Int), .slice a4 n4 c4, .int .u16 (x5 : Int)] w (fun e W' => e = .returned (.bool true) ∧ Below w.heap.size w W') := by
  have q0 := len_le h0
  have q1 := len_le h1
  have q4 := len_le h4
  have HAW := Lib.hid (fun w => awake_any w)
  by_cases hbig : 500 < n0 ∨ 200 < n1 ∨ 300 < n4
  · clear h0 h1 h4
    by_cases g0 : 500 < n0
    · have t0 : decide ((500 : Int) < (n0 : Int)) = true := by simp; omega
      go_enter Try.func4, Try.ntmps4
      go_wp2_with fail
      refine (HAW.out w).mono ?_
      rintro e w1 ⟨rfl, hb⟩
      go_wp2_with fail
      go_ret
      exact ⟨ret_bool rfl, hb⟩
    have t0 : decide ((500 : Int) < (n0 : Int)) = false := by simp; omega
    by_cases g1 : 200 < n1
    · have t1 : decide ((200 : Int) < (n1 : Int)) = true := by simp; omega
      go_enter Try.func4, Try.ntmps4
      go_wp2_with fail
      refine (HAW.out w).mono ?_
      rintro e w1 ⟨rfl, hb⟩
      go_wp2_with fail
      go_ret
      exact ⟨ret_bool rfl, hb⟩
    have t1 : decide ((200 : Int) < (n1 : Int)) = false := by simp; omega
    have t4 : decide ((300 : Int) < (n4 : Int)) = true := by simp; omega
    go_enter Try.func4, Try.ntmps4
    go_wp2_with fail
    refine (HAW.out w).mono ?_
    rintro e w1 ⟨rfl, hb⟩
    go_wp2_with fail
    go_ret
    exact ⟨ret_bool rfl, hb⟩
  have t0 : decide ((500 : Int) < (n0 : Int)) = false := by simp; omega
  have t1 : decide ((200 : Int) < (n1 : Int)) = false := by simp; omega
  have t4 : decide ((300 : Int) < (n4 : Int)) = false := by simp; omega
  have hl0 := h0.len
  have hl1 := h1.len
  have hl4 := h4.len
  have r0 : n0 ≤ 500 := by omega
  have r1 : n1 ≤ 200 := by omega
  have r4 : n4 ≤ 300 := by omega
  have K0 := Lib.hid (show ArgsB a0 n0 c0 l0 a1 n1 c1 l1 a4 n4 c4 l4 w w from ⟨h0, h1, h4, Below.refl _ _⟩)
  clear hbig h0 h1 h4 q0 q1 q4
  go_enter Try.func4, Try.ntmps4
  go_wp2_with fail
  refine (PackRegs_any _ _ _ _ _ K0.out.regs (by omega)).mono ?_
  rintro e w1 ⟨p1, d1, rfl, hs1, hb1, -⟩
  have K1 := Lib.hid (K0.out.on hb1)
  have hn1 : (putN l1).length = 2 * n1 := by rw [length_putN, hl1]
  have HR := Lib.hid (Regs_any _ _ _ _ _ hs1 (by omega))
  rw [regs_put, show decide ((putN l1).length % 2 = 0) = true from decide_eq_true (by omega)] at HR
  have hm1 : (putN l1).length ≤ 400 := by omega
  clear hs1 hb1 K0 hn1
  generalize (putN l1).length = m1 at *
  go_wp2_with fail
  refine HR.out.mono ?_
  rintro e w2 ⟨p2, d2, rfl, hs2, hb2⟩
  rw [hl1] at hs2 ⊢
  have K2 := Lib.hid (K1.out.on hb2)
  have HS2 := Lib.hid hs2
  clear HR hs2 hb2 K1
  go_wp2_with fail
  refine (Parts_any x2 _ b2).mono ?_
  rintro e w' ⟨rfl, rfl⟩
  go_wp2_with fail
  refine (Signed_any x3 _ b3).mono ?_
  rintro e w' ⟨rfl, rfl⟩
  have hsg : -32768 ≤ signedN x3 ∧ signedN x3 ≤ 32767 := by unfold signedN; split <;> omega
  have HWD := Lib.hid (Word_any (signedN x3) w2 (by omega) (by omega))
  rw [may_signed b3, word_signed b3] at HWD
  generalize signedN x3 = sg at *
  go_wp2_with fail
  refine HWD.out.mono ?_
  rintro e w' ⟨rfl, rfl⟩
  clear HWD
  go_wp2_with fail
  refine (PackBits_any _ _ _ _ _ K2.out.bools (by omega)).mono ?_
  rintro e w3 ⟨p3, d3, rfl, hs3, hb3, -⟩
  have K3 := Lib.hid (K2.out.on hb3)
  have HS3 := Lib.hid (HS2.out.on hb3)
  have hlp : (packN l0).length ≤ 100000 := by rw [length_packN]; omega
  have HB := Lib.hid (Bits_any _ _ _ _ (n0 : Int) _ hs3 hlp (by omega) (by omega))
  rw [show bitsN (packN l0) (n0 : Int) = l0 by rw [← hl0]; exact bits_pack l0] at HB
  clear hs3 hb3 K2 HS2
  generalize (packN l0).length = m3 at *
  go_wp2_with fail
  refine HB.out.mono ?_
  rintro e w4 ⟨p4, d4, rfl, hs4, hb4, -⟩
  rw [hl0] at hs4 ⊢
  have K4 := Lib.hid (K3.out.on hb4)
  have HS4 := Lib.hid (HS3.out.on hb4)
  have HT := Lib.hid (Bools_any _ _ _ _ _ _ _ _ _ _ w4 hs4 K4.out.bools)
  rw [decide_eq_true rfl] at HT
  clear HB hs4 hb4 K3 HS3 hlp
  go_wp2_with fail
  refine HT.out.mono ?_
  rintro e w5 ⟨rfl, q5, rfl⟩
  have K5 := Lib.hid (K4.out.drewN q5)
  have HT2 := Lib.hid (RegsSame_any _ _ _ _ _ _ _ _ _ _ (w4.drewN q5) (HS4.out.drawn q5) (K5.out.regs))
  rw [decide_eq_true rfl] at HT2
  clear HT K4 HS4
  go_wp2_with fail
  refine HT2.out.mono ?_
  rintro e w6 ⟨rfl, q6, rfl⟩
  have K6 := K5.out.drewN q6
  rw [World.drewN_drewN] at K6
  have K6 := Lib.hid K6
  have hx2 : 65536 * (x2 / 65536) + x2 % 65536 = x2 := by omega
  have HWI := Lib.hid (Wide_any (x2 / 65536) (x2 % 65536) (w4.drewN (q5 + q6)) (by omega) (by omega))
  rw [hx2, show ((x2 / 65536 : Nat) : Int) = (x2 : Int) / 65536 by omega, show ((x2 % 65536 : Nat) : Int) = (x2 : Int) % 65536 by omega] at HWI
  have tx2 : ((x2 : Int) != (x2 : Int)) = false := by simp
  have tx3 : ((x3 : Int) != (x3 : Int)) = false := by simp
  clear HT2 K5
  go_wp2_with fail
  -- TAIL
  refine HWI.out.mono ?_
  rintro e w7 ⟨rfl, rfl⟩
  have HX5 := Lib.hid (Bits_any _ _ _ _ (x5 : Int) (w4.drewN (q5 + q6)) K6.out.bytes (by omega) (by omega) (by omega))
  have hl4' := hl4
  clear HWI hx2 hl4
  generalize w4.drewN (q5 + q6) = w7 at *
  go_wp2_with fail
  refine HX5.out.mono ?_
  rintro e w8 ⟨p8, d8, rfl, hs8, hb8, -⟩
  have K8 := Lib.hid (K6.out.on hb8)
  clear HX5 hb8 K6
  by_cases hfit : FitB l4 (x5 : Int)
  · have hpb : packN (bitsN l4 (x5 : Int)) = l4 := pack_bitsN hfit
    have hlb : (bitsN l4 (x5 : Int)).length = x5 := by rw [length_bitsN hfit]; simp
    rw [hlb] at hs8
    rw [hlb]
    by_cases hz : x5 = 0
    · have tz : decide ((0 : Int) < (x5 : Int)) = false := by simp; omega
      have tz2 : decide (0 < x5) = false := by simp; omega
      clear hs8 hpb hlb hfit hz
      go_wp2_with fail
      have HG := Lib.hid (Regs_any _ _ _ _ w8 K8.out.bytes (by omega))
      have KA := K8
      clear K8
      refine HG.out.mono ?_
      rintro e wB ⟨pB, dB, rfl, hsB, hbB⟩
      have KB := Lib.hid (KA.out.on hbB)
      by_cases hev : n4 % 2 = 0
      · have hrl : regsN l4 = numsN l4 := by unfold regsN; rw [if_pos (by omega)]
        have hpn : putN (numsN l4) = l4 := put_nums (by omega)
        have hll : (numsN l4).length ≤ 300 := by rw [length_numsN]; omega
        have tev : decide (n4 % 2 = 0) = true := decide_eq_true hev
        have tev2 : ((n4 : Int) % 2 == 0) = true := by rw [beq_iff_eq]; omega
        rw [hrl] at hsB
        rw [hrl, tev]
        have HP := Lib.hid (PackRegs_any _ _ _ _ _ hsB (by omega))
        rw [hpn] at HP
        clear hrl hev hpn tev HG KA hsB hbB
        generalize (numsN l4).length = mB at *
        go_wp2_with fail
        refine HP.out.mono ?_
        rintro e wC ⟨pC, dC, rfl, hsC, hbC, -⟩
        rw [hl4'] at hsC ⊢
        have KC := Lib.hid (KB.out.on hbC)
        have HT := Lib.hid (Same_any _ _ _ _ _ _ _ _ _ _ wC hsC KC.out.bytes)
        rw [decide_eq_true rfl] at HT
        clear HP hsC hbC KB
        go_wp2_with fail
        refine HT.out.mono ?_
        rintro e wD ⟨rfl, qD, rfl⟩
        have KD := Lib.hid (KC.out.drewN qD)
        clear HT KC
        go_wp2_with fail
        refine (HAW.out _).mono ?_
        rintro e wE ⟨rfl, hbE⟩
        have KE := Lib.hid (KD.out.on hbE)
        go_wp2_with fail
        go_ret
        exact ⟨ret_bool rfl, KE.out.below⟩
      · have hrl : regsN l4 = [] := by unfold regsN; rw [if_neg (by omega)]
        have tev : decide (n4 % 2 = 0) = false := decide_eq_false hev
        have tev2 : ((n4 : Int) % 2 == 0) = false := by rw [beq_eq_false_iff_ne]; omega
        rw [hrl, tev, show ([] : List UInt16).length = 0 from rfl]
        clear hrl hev tev HG KA hsB hbB
        go_wp2_with fail
        refine (HAW.out _).mono ?_
        rintro e wE ⟨rfl, hbE⟩
        have KE := Lib.hid (KB.out.on hbE)
        go_wp2_with fail
        go_ret
        exact ⟨ret_bool rfl, KE.out.below⟩
    · have tz : decide ((0 : Int) < (x5 : Int)) = true := by simp; omega
      have tz2 : decide (0 < x5) = true := by simp; omega
      have tn : ((x5 : Int) != (x5 : Int)) = false := by simp
      have HP := Lib.hid (PackBits_any _ _ _ _ _ hs8 (by omega))
      rw [hpb] at HP
      clear hs8 hlb hfit hz
      go_wp2_with fail
      refine HP.out.mono ?_
      rintro e w9 ⟨p9, d9, rfl, hs9, hb9, -⟩
      rw [hl4'] at hs9 ⊢
      have K9 := Lib.hid (K8.out.on hb9)
      have HT := Lib.hid (Same_any _ _ _ _ _ _ _ _ _ _ w9 hs9 K9.out.bytes)
      rw [decide_eq_true rfl] at HT
      clear HP hs9 hb9 K8 hpb
      go_wp2_with fail
      refine HT.out.mono ?_
      rintro e w10 ⟨rfl, q10, rfl⟩
      have K10 := Lib.hid (K9.out.drewN q10)
      clear HT K9
      generalize w9.drewN q10 = w10 at *
      go_wp2_with fail
      have HG := Lib.hid (Regs_any _ _ _ _ w10 K10.out.bytes (by omega))
      have KA := K10
      clear K10
      refine HG.out.mono ?_
      rintro e wB ⟨pB, dB, rfl, hsB, hbB⟩
      have KB := Lib.hid (KA.out.on hbB)
      by_cases hev : n4 % 2 = 0
      · have hrl : regsN l4 = numsN l4 := by unfold regsN; rw [if_pos (by omega)]
        have hpn : putN (numsN l4) = l4 := put_nums (by omega)
        have hll : (numsN l4).length ≤ 300 := by rw [length_numsN]; omega
        have tev : decide (n4 % 2 = 0) = true := decide_eq_true hev
        have tev2 : ((n4 : Int) % 2 == 0) = true := by rw [beq_iff_eq]; omega
        rw [hrl] at hsB
        rw [hrl, tev]
        have HP := Lib.hid (PackRegs_any _ _ _ _ _ hsB (by omega))
        rw [hpn] at HP
        clear hrl hev hpn tev HG KA hsB hbB
        generalize (numsN l4).length = mB at *
        go_wp2_with fail
        refine HP.out.mono ?_
        rintro e wC ⟨pC, dC, rfl, hsC, hbC, -⟩
        rw [hl4'] at hsC ⊢
        have KC := Lib.hid (KB.out.on hbC)
        have HT := Lib.hid (Same_any _ _ _ _ _ _ _ _ _ _ wC hsC KC.out.bytes)
        rw [decide_eq_true rfl] at HT
        clear HP hsC hbC KB
        go_wp2_with fail
        refine HT.out.mono ?_
        rintro e wD ⟨rfl, qD, rfl⟩
        have KD := Lib.hid (KC.out.drewN qD)
        clear HT KC
        go_wp2_with fail
        refine (HAW.out _).mono ?_
        rintro e wE ⟨rfl, hbE⟩
        have KE := Lib.hid (KD.out.on hbE)
        go_wp2_with fail
        go_ret
        exact ⟨ret_bool rfl, KE.out.below⟩
      · have hrl : regsN l4 = [] := by unfold regsN; rw [if_neg (by omega)]
        have tev : decide (n4 % 2 = 0) = false := decide_eq_false hev
        have tev2 : ((n4 : Int) % 2 == 0) = false := by rw [beq_eq_false_iff_ne]; omega
        rw [hrl, tev, show ([] : List UInt16).length = 0 from rfl]
        clear hrl hev tev HG KA hsB hbB
        go_wp2_with fail
        refine (HAW.out _).mono ?_
        rintro e wE ⟨rfl, hbE⟩
        have KE := Lib.hid (KB.out.on hbE)
        go_wp2_with fail
        go_ret
        exact ⟨ret_bool rfl, KE.out.below⟩
  · have hno := bitsN_no hfit
    have tz : decide ((0 : Int) < (0 : Int)) = false := by decide
    rw [hno, show ([] : List Bool).length = 0 from rfl]
    clear hs8 hfit hno
    go_wp2_with fail
    have HG := Lib.hid (Regs_any _ _ _ _ w8 K8.out.bytes (by omega))
    have KA := K8
    clear K8
    refine HG.out.mono ?_
    rintro e wB ⟨pB, dB, rfl, hsB, hbB⟩
    have KB := Lib.hid (KA.out.on hbB)
    by_cases hev : n4 % 2 = 0
    · have hrl : regsN l4 = numsN l4 := by unfold regsN; rw [if_pos (by omega)]
      have hpn : putN (numsN l4) = l4 := put_nums (by omega)
      have hll : (numsN l4).length ≤ 300 := by rw [length_numsN]; omega
      have tev : decide (n4 % 2 = 0) = true := decide_eq_true hev
      have tev2 : ((n4 : Int) % 2 == 0) = true := by rw [beq_iff_eq]; omega
      rw [hrl] at hsB
      rw [hrl, tev]
      have HP := Lib.hid (PackRegs_any _ _ _ _ _ hsB (by omega))
      rw [hpn] at HP
      clear hrl hev hpn tev HG KA hsB hbB
      generalize (numsN l4).length = mB at *
      go_wp2_with fail
      refine HP.out.mono ?_
      rintro e wC ⟨pC, dC, rfl, hsC, hbC, -⟩
      rw [hl4'] at hsC ⊢
      have KC := Lib.hid (KB.out.on hbC)
      have HT := Lib.hid (Same_any _ _ _ _ _ _ _ _ _ _ wC hsC KC.out.bytes)
      rw [decide_eq_true rfl] at HT
      clear HP hsC hbC KB
      go_wp2_with fail
      refine HT.out.mono ?_
      rintro e wD ⟨rfl, qD, rfl⟩
      have KD := Lib.hid (KC.out.drewN qD)
      clear HT KC
      go_wp2_with fail
      refine (HAW.out _).mono ?_
      rintro e wE ⟨rfl, hbE⟩
      have KE := Lib.hid (KD.out.on hbE)
      go_wp2_with fail
      go_ret
      exact ⟨ret_bool rfl, KE.out.below⟩
    · have hrl : regsN l4 = [] := by unfold regsN; rw [if_neg (by omega)]
      have tev : decide (n4 % 2 = 0) = false := decide_eq_false hev
      have tev2 : ((n4 : Int) % 2 == 0) = false := by rw [beq_eq_false_iff_ne]; omega
      rw [hrl, tev, show ([] : List UInt16).length = 0 from rfl]
      clear hrl hev tev HG KA hsB hbB
      go_wp2_with fail
      refine (HAW.out _).mono ?_
      rintro e wE ⟨rfl, hbE⟩
      have KE := Lib.hid (KB.out.on hbE)
      go_wp2_with fail
      go_ret
      exact ⟨ret_bool rfl, KE.out.below⟩
end Go.Proofs.Ytmcclopkmoomeaa.WdW
