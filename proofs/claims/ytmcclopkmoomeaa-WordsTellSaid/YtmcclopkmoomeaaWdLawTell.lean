/- Bits, registers and numbers, beside the document's own answer. -/
import Derived.Test.YtmcclopkmoomeaaWdAwake
import Derived.Test.YtmcclopkmoomeaaWdLawBack
import Derived.Test.YtmcclopkmoomeaaWdRefBits2
import Derived.Test.YtmcclopkmoomeaaWdRefRegs
open Go.RowKit
namespace Go.Proofs.Ytmcclopkmoomeaa.WdW
open AskM WdM Mem

/-- The arguments, all along. -/
structure ArgsT (a0 : Option Addr) (n0 c0 : Nat) (l0 : List UInt8) (a2 : Option Addr) (n2 c2 : Nat) (l2 : List Bool) (a3 : Option Addr) (n3 c3 : Nat) (l3 : List UInt16) (w W : World) : Prop where
  bytes : Sl b8 W W.heap.size a0 n0 c0 l0
  bools : Sl Value.bool W W.heap.size a2 n2 c2 l2
  regs : Sl b16 W W.heap.size a3 n3 c3 l3
  below : Below w.heap.size w W
section
variable {a0 a2 a3 : Option Addr} {n0 c0 n2 c2 n3 c3 : Nat} {l0 : List UInt8} {l2 : List Bool} {l3 : List UInt16} {w W W' : World}
theorem ArgsT.on (h : ArgsT a0 n0 c0 l0 a2 n2 c2 l2 a3 n3 c3 l3 w W) (hb : Below W.heap.size W W') : ArgsT a0 n0 c0 l0 a2 n2 c2 l2 a3 n3 c3 l3 w W' :=
  ⟨h.bytes.on hb, h.bools.on hb, h.regs.on hb, h.below.trans (hb.mono h.below.size)⟩
theorem ArgsT.drewN (h : ArgsT a0 n0 c0 l0 a2 n2 c2 l2 a3 n3 c3 l3 w W) (q : Nat) : ArgsT a0 n0 c0 l0 a2 n2 c2 l2 a3 n3 c3 l3 w (W.drewN q) := h.on (below_drawn (Below.refl _ _) q)
end
theorem quiet_addT {P : Program} {f : FuncId} {args : Array Value} {w : World} {a n : Nat} {v : Value} (h : Calls P f args (w.drewN (a + n)) (Tells v (w.drewN (a + n)))) :
    Calls P f args (w.drewN (a + n)) fun e w'' => e = .returned v ∧ ∃ m, w'' = w.drewN (a + m) :=
  h.mono fun _ _ ⟨he, hw⟩ => ⟨he, n, hw.symm⟩
theorem Parts_wide (h l : Nat) (w : World) (hh : h < 65536) (hl : l < 65536) :
    Calls Try.prog 20 #[.int .u32 ((65536 * h + l : Nat) : Int)] w (Tells (.tuple #[.int .u16 (h : Int), .int .u16 (l : Int)]) w) := by
  have := Parts_any (65536 * h + l) w (by omega)
  rwa [show (65536 * h + l) / 65536 = h by omega, show (65536 * h + l) % 65536 = l by omega] at this
set_option maxRecDepth 100000 in
set_option maxHeartbeats 4000000 in
theorem WordsTell_walk (a0 : Option Addr) (n0 c0 : Nat) (l0 : List UInt8) (x1 : Int) (a2 : Option Addr) (n2 c2 : Nat) (l2 : List Bool) (a3 : Option Addr) (n3 c3 : Nat) (l3 : List UInt16) (x4 : Int) (w : World)
    (h0 : Sl b8 w w.heap.size a0 n0 c0 l0) (lo1 : -9223372036854775808 ≤ x1) (hi1 : x1 ≤ 9223372036854775807) (h2 : Sl Value.bool w w.heap.size a2 n2 c2 l2) (h3 : Sl b16 w w.heap.size a3 n3 c3 l3) (lo4 : -9223372036854775808 ≤ x4) (hi4 : x4 ≤ 9223372036854775807) :
    Calls Try.prog 3 #[.slice a0 n0 c0, .int .i64 x1, .slice a2 n2 c2, .slice a3 n3 c3, .int .i64 x4] w (fun e W' => e = .returned (.bool true) ∧ Below w.heap.size w W') := by
  have q0 := len_le h0
  have q2 := len_le h2
  have q3 := len_le h3
  have HAW := Lib.hid (fun w => awake_any w)
  by_cases g0 : 300 < n0
  · have t0 : decide ((300 : Int) < (n0 : Int)) = true := by simp; omega
    clear h0 h2 h3
    go_enter Try.func3, Try.ntmps3
    go_wp2_with fail
    refine (HAW.out w).mono ?_
    rintro e w1 ⟨rfl, hb⟩
    go_wp2_with fail
    go_ret
    exact ⟨ret_bool rfl, hb⟩
  have t0 : decide ((300 : Int) < (n0 : Int)) = false := by simp; omega
  by_cases g2 : 500 < n2
  · have t2 : decide ((500 : Int) < (n2 : Int)) = true := by simp; omega
    clear h0 h2 h3
    go_enter Try.func3, Try.ntmps3
    go_wp2_with fail
    refine (HAW.out w).mono ?_
    rintro e w1 ⟨rfl, hb⟩
    go_wp2_with fail
    go_ret
    exact ⟨ret_bool rfl, hb⟩
  have t2 : decide ((500 : Int) < (n2 : Int)) = false := by simp; omega
  by_cases g3 : 200 < n3
  · have t3 : decide ((200 : Int) < (n3 : Int)) = true := by simp; omega
    clear h0 h2 h3
    go_enter Try.func3, Try.ntmps3
    go_wp2_with fail
    refine (HAW.out w).mono ?_
    rintro e w1 ⟨rfl, hb⟩
    go_wp2_with fail
    go_ret
    exact ⟨ret_bool rfl, hb⟩
  have t3 : decide ((200 : Int) < (n3 : Int)) = false := by simp; omega
  have r0 : n0 ≤ 300 := by omega
  have r2 : n2 ≤ 500 := by omega
  have r3 : n3 ≤ 200 := by omega
  have K0 := Lib.hid (show ArgsT a0 n0 c0 l0 a2 n2 c2 l2 a3 n3 c3 l3 w w from ⟨h0, h2, h3, Below.refl _ _⟩)
  have HL2 := Lib.hid h2.len
  have HL3 := Lib.hid h3.len
  have HL0 := Lib.hid h0.len
  clear g0 g2 g3 h0 h2 h3 q0 q2 q3
  go_enter Try.func3, Try.ntmps3
  go_wp2_with fail
  refine (Regs_any _ _ _ _ _ K0.out.bytes (by omega)).mono ?_
  rintro e w1 ⟨p1, d1, rfl, hs1, hb1⟩
  have K1 := Lib.hid (K0.out.on hb1)
  have HS1 := Lib.hid hs1
  have HRR := Lib.hid (rRegs_any _ _ _ _ _ K1.out.bytes (by omega))
  have hr1 : (regsN l0).length ≤ 300 := by unfold regsN; split <;> simp [length_numsN, HL0.out]; omega
  have tev : (decide (n0 % 2 = 0) != decide (n0 % 2 = 0)) = false := by simp
  clear hs1 hb1 K0
  generalize hEV : decide (n0 % 2 = 0) = ev at *
  generalize hRG : regsN l0 = rg at *
  generalize hRL : rg.length = m1 at *
  clear hEV hRG
  go_wp2_with fail
  refine HRR.out.mono ?_
  rintro e w2 ⟨p2, d2, rfl, hs2, hb2⟩
  rw [hRL] at hs2 ⊢
  have K2 := Lib.hid (K1.out.on hb2)
  have HS2 := Lib.hid hs2
  have HS1b := Lib.hid (HS1.out.on hb2)
  have HBB := Lib.hid (Bits_any _ _ _ _ x1 _ K2.out.bytes (by omega) (by omega) (by omega))
  have hbl : (bitsN l0 x1).length ≤ 2400 := by
    by_cases hf : FitB l0 x1
    · rw [length_bitsN hf]; have := hf.2.1; rw [HL0.out] at this; omega
    · rw [bitsN_no hf]; simp
  have HBR := Lib.hid (fun W (h : ArgsT a0 n0 c0 l0 a2 n2 c2 l2 a3 n3 c3 l3 w W) => rBits_any _ _ _ _ x1 _ h.bytes (by omega) (by omega) (by omega))
  clear hs2 hb2 K1 HRR HS1 hRL
  generalize hBI : bitsN l0 x1 = bi at *
  clear hBI
  generalize hBL : bi.length = m2 at *
  go_wp2_with fail
  refine HBB.out.mono ?_
  rintro e w3 ⟨p3, d3, rfl, hs3, hb3, -⟩
  rw [hBL] at hs3 ⊢
  have K3 := Lib.hid (K2.out.on hb3)
  have HS3 := Lib.hid hs3
  have HS13 := Lib.hid (And.intro (HS1b.out.on hb3) (HS2.out.on hb3))
  have HBR2 := Lib.hid (HBR.out _ K3.out)
  clear hs3 hb3 K2 HS1b HS2 HBB HBR
  go_wp2_with fail
  refine HBR2.out.mono ?_
  rintro e w4 ⟨p4, d4, rfl, hs4, hb4, -⟩
  rw [hBL] at hs4 ⊢
  have K4 := Lib.hid (K3.out.on hb4)
  have HT := Lib.hid (Bools_any _ _ _ _ _ _ _ _ _ _ w4 (HS3.out.on hb4) hs4)
  rw [decide_eq_true rfl] at HT
  have HS14 := Lib.hid (And.intro (HS13.out.1.on hb4) (HS13.out.2.on hb4))
  clear hs4 hb4 K3 HS13 HS3 HBR2 hBL
  go_wp2_with fail
  refine HT.out.mono ?_
  rintro e w5 ⟨rfl, q5, rfl⟩
  have K5 := Lib.hid (K4.out.drewN q5)
  have HS15 := Lib.hid (And.intro (HS14.out.1.on (below_drawn (Below.refl _ w4) q5)) (HS14.out.2.on (below_drawn (Below.refl _ w4) q5)))
  clear HT K4 HS14
  generalize w4.drewN q5 = w5 at *
  have hpl : (packN l2).length = (n2 + 7) / 8 := by rw [length_packN, HL2.out]
  go_wp2_with fail
  -- TAIL
  refine (PackBits_any _ _ _ _ _ K5.out.bools (by omega)).mono ?_
  rintro e w6 ⟨p6, d6, rfl, hs6, hb6, -⟩
  rw [hpl] at hs6 ⊢
  have K6 := Lib.hid (K5.out.on hb6)
  have HS6 := Lib.hid hs6
  have HS16 := Lib.hid (And.intro (HS15.out.1.on hb6) (HS15.out.2.on hb6))
  have HPL := Lib.hid hpl
  clear hs6 hb6 K5 HS15 hpl
  generalize hM3 : (n2 + 7) / 8 = m3 at *
  clear hM3
  go_wp2_with fail
  refine (rPackBits_any _ _ _ _ _ K6.out.bools (by omega)).mono ?_
  rintro e w7 ⟨p7, d7, rfl, hs7, hb7, -⟩
  rw [HPL.out] at hs7 ⊢
  have K7 := Lib.hid (K6.out.on hb7)
  have HT := Lib.hid (Same_any _ _ _ _ _ _ _ _ _ _ w7 (HS6.out.on hb7) hs7)
  rw [decide_eq_true rfl] at HT
  have HS17 := Lib.hid (And.intro (HS16.out.1.on hb7) (HS16.out.2.on hb7))
  clear hs7 hb7 K6 HS16 HS6
  go_wp2_with fail
  refine HT.out.mono ?_
  rintro e w8 ⟨rfl, q8, rfl⟩
  have K8 := Lib.hid (K7.out.drewN q8)
  have HS18 := Lib.hid (And.intro (HS17.out.1.on (below_drawn (Below.refl _ w7) q8)) (HS17.out.2.on (below_drawn (Below.refl _ w7) q8)))
  clear HT K7 HS17
  generalize w7.drewN q8 = w8 at *
  have hp3 : (putN l3).length = 2 * n3 := by rw [length_putN, HL3.out]
  have HP3 := Lib.hid hp3
  clear hp3
  go_wp2_with fail
  refine (PackRegs_any _ _ _ _ _ K8.out.regs (by omega)).mono ?_
  rintro e w9 ⟨p9, d9, rfl, hs9, hb9, -⟩
  rw [HP3.out] at hs9 ⊢
  have K9 := Lib.hid (K8.out.on hb9)
  have HS9 := Lib.hid hs9
  have HS19 := Lib.hid (And.intro (HS18.out.1.on hb9) (HS18.out.2.on hb9))
  clear hs9 hb9 K8 HS18
  generalize hM4 : 2 * n3 = m4 at *
  clear hM4
  go_wp2_with fail
  refine (rPackRegs_any _ _ _ _ _ K9.out.regs (by omega)).mono ?_
  rintro e w10 ⟨p10, d10, rfl, hs10, hb10, -⟩
  rw [HP3.out] at hs10 ⊢
  have K10 := Lib.hid (K9.out.on hb10)
  have HT := Lib.hid (Same_any _ _ _ _ _ _ _ _ _ _ w10 (HS9.out.on hb10) hs10)
  rw [decide_eq_true rfl] at HT
  have HS20 := Lib.hid (And.intro (HS19.out.1.on hb10) (HS19.out.2.on hb10))
  clear hs10 hb10 K9 HS19 HS9
  go_wp2_with fail
  refine HT.out.mono ?_
  rintro e w11 ⟨rfl, q11, rfl⟩
  have K11 := Lib.hid (K10.out.drewN q11)
  have HS21 := Lib.hid (And.intro (HS20.out.1.on (below_drawn (Below.refl _ w10) q11)) (HS20.out.2.on (below_drawn (Below.refl _ w10) q11)))
  clear HT K10 HS20
  generalize w10.drewN q11 = w11 at *
  have HT := Lib.hid (RegsSame_any _ _ _ _ _ _ _ _ _ _ w11 HS21.out.1 HS21.out.2)
  rw [decide_eq_true rfl] at HT
  clear HS21
  go_wp2_with fail
  refine HT.out.mono ?_
  rintro e w12 ⟨rfl, q12, rfl⟩
  have K12 := Lib.hid (K11.out.drewN q12)
  clear HT K11
  generalize w11.drewN q12 = w12 at *
  go_wp2_with fail
  go_loopw [15] (fun i wr => ∃ j p : Nat, Hid (p = j + 1) ∧ i = .int .i64 (p : Int) ∧ p ≤ n3 + 1 ∧ Hid (∃ q, wr = w12.drewN q)) (fun i _ => n3 + 1 - (intOf i).toNat)
  case atStart => exact ⟨0, 1, Lib.hid rfl, rfl, by omega, ⟨0, rfl⟩⟩
  case round =>
    obtain ⟨j, p, HP, rfl, hj, HW⟩ := hrel
    have hp := HP.out
    obtain ⟨q, rfl⟩ := HW.out
    by_cases hlt : p < n3
    · have tj : decide ((p : Int) < (n3 : Int)) = true := by simp; omega
      have HRG := Lib.hid K12.out.regs
      obtain ⟨b, off, x, hab, _, hx, hcx⟩ := HRG.out.at_ (k := j) (by omega)
      obtain ⟨b1, off1, y, hab1, _, hy, hcy⟩ := HRG.out.at_ (k := p) hlt
      rw [hab] at hab1
      injection hab1 with hab1
      injection hab1 with e1 e2
      subst e1 e2
      subst hab
      have j1 : (0 : Int) ≤ (j : Int) := by omega
      have j2 : (j : Int) < (n3 : Int) := by omega
      have j3 : (0 : Int) ≤ (p : Int) := by omega
      have j4 : (p : Int) < (n3 : Int) := by omega
      have j5 : IntKind.i64.wrap ((p : Int) - 1) = (j : Int) := by rw [IntKind.wrap_i64]; omega
      have j6 : (p : Int) - 1 = (j : Int) := by omega
      have j7 : IntKind.i64.wrap (j : Int) = (j : Int) := by rw [IntKind.wrap_i64]; omega
      clear hp
      have hx16 := x.toNat_lt
      have hy16 := y.toNat_lt
      have HWI := Lib.hid (fun W => Wide_any x.toNat y.toNat W hx16 hy16)
      have HRW := Lib.hid (fun W => rWide_any x.toNat y.toNat W hx16 hy16)
      have HPT := Lib.hid (fun W => Parts_wide x.toNat y.toNat W hx16 hy16)
      have HSG := Lib.hid (fun W => Signed_any y.toNat W hy16)
      have HRS := Lib.hid (fun W => rSigned_any y.toNat W hy16)
      clear hx hy
      generalize 65536 * x.toNat + y.toNat = wd at *
      generalize signedN y.toNat = sg at *
      have u1 : ((wd : Int) != (wd : Int)) = false := by simp
      have u2 : ((x.toNat : Int) != (x.toNat : Int)) = false := by simp
      have u3 : ((y.toNat : Int) != (y.toNat : Int)) = false := by simp
      have u4 : (sg != sg) = false := by simp
      go_wp2_with fail
      go_quiet ((go_at_call 19; exact quiet_addT (HWI.out _)))
      go_wp2_with fail
      refine (HPT.out _).mono ?_
      rintro e wP ⟨rfl, rfl⟩
      go_wp2_with fail
      go_quiet (first
        | (go_at_call 21; exact quiet_addT (HRW.out _))
        | (go_at_call 22; exact quiet_addT (HSG.out _))
        | (go_at_call 23; exact quiet_addT (HRS.out _)))
      go_wp2_with fail
      go_roundw
      case rel => exact ⟨j + 1, p + 1, Lib.hid (by rw [HP.out]), by go_num, by omega, ⟨_, rfl⟩⟩
      case measure => simp [intOf] <;> omega
    · have tj : decide ((p : Int) < (n3 : Int)) = false := by simp; omega
      have tj2 : decide (p < n3) = false := by simp; omega
      have HWO := Lib.hid (Word_any x4 (w12.drewN q) lo4 hi4)
      clear hp hlt
      by_cases hmay : mayN x4 = true
      · have hd : -32768 ≤ x4 ∧ x4 ≤ 32767 := by unfold mayN at hmay; exact of_decide_eq_true hmay
        have v1 : decide (-32768 ≤ x4) = true := decide_eq_true hd.1
        have v2 : decide (x4 ≤ 32767) = true := decide_eq_true hd.2
        have HSG := Lib.hid (rSigned_any (wordN x4) (w12.drewN q) (wordN_lt x4))
        rw [signed_word hmay] at HSG
        rw [hmay] at HWO
        have v3 : (x4 == x4) = true := by simp
        clear hmay hd
        generalize wordN x4 = wn at *
        go_wp2_with fail
        refine HWO.out.mono ?_
        rintro e wQ ⟨rfl, rfl⟩
        go_wp2_with fail
        refine HSG.out.mono ?_
        rintro e wQ ⟨rfl, rfl⟩
        go_wp2_with fail
        refine (HAW.out _).mono ?_
        rintro e wE ⟨rfl, hbE⟩
        have KE := Lib.hid ((K12.out.drewN q).on hbE)
        go_wp2_with fail
        go_ret
        exact ⟨ret_bool rfl, KE.out.below⟩
      · have hf : mayN x4 = false := by simpa using hmay
        have hw0 : wordN x4 = 0 := by unfold wordN; rw [if_neg hmay]
        have hd : ¬ (-32768 ≤ x4 ∧ x4 ≤ 32767) := fun h => hmay (decide_eq_true h)
        rw [hf, hw0] at HWO
        by_cases hlow : -32768 ≤ x4
        · have v1 : decide (-32768 ≤ x4) = true := decide_eq_true hlow
          have v2 : decide (x4 ≤ 32767) = false := decide_eq_false (by omega)
          clear hmay hd hf hw0 hlow
          go_wp2_with fail
          refine HWO.out.mono ?_
          rintro e wQ ⟨rfl, rfl⟩
          go_wp2_with fail
          refine (HAW.out _).mono ?_
          rintro e wE ⟨rfl, hbE⟩
          have KE := Lib.hid ((K12.out.drewN q).on hbE)
          go_wp2_with fail
          go_ret
          exact ⟨ret_bool rfl, KE.out.below⟩
        · have v1 : decide (-32768 ≤ x4) = false := decide_eq_false hlow
          clear hmay hd hf hw0 hlow
          go_wp2_with fail
          refine HWO.out.mono ?_
          rintro e wQ ⟨rfl, rfl⟩
          go_wp2_with fail
          refine (HAW.out _).mono ?_
          rintro e wE ⟨rfl, hbE⟩
          have KE := Lib.hid ((K12.out.drewN q).on hbE)
          go_wp2_with fail
          go_ret
          exact ⟨ret_bool rfl, KE.out.below⟩
end Go.Proofs.Ytmcclopkmoomeaa.WdW
