/- Registers behind others, and the order of numbers. -/
import Derived.Test.YtmcclopkmoomeaaWdAwake
import Derived.Test.YtmcclopkmoomeaaStep
open Go.RowKit
namespace Go.Proofs.Ytmcclopkmoomeaa.WdW
open AskM WdM Mem

theorem xor_top {v : Nat} (h : v < 65536) : ((v ^^^ 32768 : Nat) : Int) = signedN v + 32768 := by
  have h1 : (v ^^^ 32768) / 2 ^ 15 = v / 2 ^ 15 ^^^ 1 := by rw [Nat.xor_div_two_pow]
  have h2 : (v ^^^ 32768) % 2 ^ 15 = v % 2 ^ 15 := by rw [Nat.xor_mod_two_pow]; simp
  have h3 := Nat.div_add_mod (v ^^^ 32768) (2 ^ 15)
  unfold signedN
  by_cases hv : 32768 ≤ v
  · have e : v / 2 ^ 15 = 1 := by omega
    rw [e] at h1
    have : (1 : Nat) ^^^ 1 = 0 := by decide
    rw [if_pos hv]
    omega
  · have e : v / 2 ^ 15 = 0 := by omega
    rw [e] at h1
    have : (0 : Nat) ^^^ 1 = 1 := by decide
    rw [if_neg hv]
    omega
theorem xor_val {v : Nat} (h : v < 65536) : bits .xor .u16 (v : Int) 32768 = signedN v + 32768 := by
  rw [← xor_top h]
  exact u16_xor_nat v 32768 h (by omega)
/-- The arguments, all along. -/
structure ArgsA (a0 : Option Addr) (n0 c0 : Nat) (l0 : List UInt16) (a1 : Option Addr) (n1 c1 : Nat) (l1 : List UInt16) (w W : World) : Prop where
  one : Sl b16 W W.heap.size a0 n0 c0 l0
  two : Sl b16 W W.heap.size a1 n1 c1 l1
  below : Below w.heap.size w W
section
variable {a0 a1 : Option Addr} {n0 c0 n1 c1 : Nat} {l0 l1 : List UInt16} {w W W' : World}
theorem ArgsA.on (h : ArgsA a0 n0 c0 l0 a1 n1 c1 l1 w W) (hb : Below W.heap.size W W') : ArgsA a0 n0 c0 l0 a1 n1 c1 l1 w W' :=
  ⟨h.one.on hb, h.two.on hb, h.below.trans (hb.mono h.below.size)⟩
theorem ArgsA.drewN (h : ArgsA a0 n0 c0 l0 a1 n1 c1 l1 w W) (q : Nat) : ArgsA a0 n0 c0 l0 a1 n1 c1 l1 w (W.drewN q) := h.on (below_drawn (Below.refl _ _) q)
end
theorem b16_one : ∀ x : UInt16, (b16 x).oneCell' = true := fun _ => rfl
theorem b8_one : ∀ x : UInt8, (b8 x).oneCell' = true := fun _ => rfl
/-- An empty row just made, and a list behind it. -/
theorem own_none (W : World) (T : TypeId) : (W.alloc (.cells #[] T)).ownsRow W.heap.size T 1 (.slice (some ⟨W.heap.size, 0, none⟩) 0 0) 0 [] := World.ownsRow_made W #[] 0 (Nat.le_refl _) (by unfold maxLen; omega) rfl
theorem up_one {W W1 : World} {T : TypeId} {v : Value} (h : Grew (W.alloc (.cells #[] T)) (.slice (some ⟨W.heap.size, 0, none⟩) 0 0) W1 v) : Below W.heap.size W W1 :=
  Grew.below (below_al W _) h (by simp) fun k hk => by simp [Value.ownBlock] at hk; omega
theorem up_two {W W1 W2 : World} {T : TypeId} {v v' : Value} {n : Nat} {xs : List Value} (hb : Below W.heap.size W W1) (ho : W1.ownsRow W.heap.size T 1 v n xs) (h : Grew W1 v W2 v') : Below W.heap.size W W2 :=
  Grew.below hb h hb.size fun k hk => (ho.lt k hk).1
set_option maxRecDepth 100000 in
set_option maxHeartbeats 4000000 in
theorem WordsAdd_walk (a0 : Option Addr) (n0 c0 : Nat) (l0 : List UInt16) (a1 : Option Addr) (n1 c1 : Nat) (l1 : List UInt16) (x2 x3 x4 x5 : Nat) (w : World)
    (h0 : Sl b16 w w.heap.size a0 n0 c0 l0) (h1 : Sl b16 w w.heap.size a1 n1 c1 l1) (b2 : x2 < 4294967296) (b3 : x3 < 4294967296) (b4 : x4 < 65536) (b5 : x5 < 65536) :
    Calls Try.prog 6 #[.slice a0 n0 c0, .slice a1 n1 c1, .int .u32 (x2 : Int), .int .u32 (x3 : Int), .int .u16 (x4 : Int), .int .u16 (x5 : Int)] w (fun e W' => e = .returned (.bool true) ∧ Below w.heap.size w W') := by
  have q0 := len_le h0
  have q1 := len_le h1
  have HAW := Lib.hid (fun w => awake_any w)
  by_cases g0 : 100 < n0
  · have t0 : decide ((100 : Int) < (n0 : Int)) = true := by simp; omega
    clear h0 h1
    go_enter Try.func6, Try.ntmps6
    go_wp2_with fail
    refine (HAW.out w).mono ?_
    rintro e w1 ⟨rfl, hb⟩
    go_wp2_with fail
    go_ret
    exact ⟨ret_bool rfl, hb⟩
  have t0 : decide ((100 : Int) < (n0 : Int)) = false := by simp; omega
  by_cases g1 : 100 < n1
  · have t1 : decide ((100 : Int) < (n1 : Int)) = true := by simp; omega
    clear h0 h1
    go_enter Try.func6, Try.ntmps6
    go_wp2_with fail
    refine (HAW.out w).mono ?_
    rintro e w1 ⟨rfl, hb⟩
    go_wp2_with fail
    go_ret
    exact ⟨ret_bool rfl, hb⟩
  have t1 : decide ((100 : Int) < (n1 : Int)) = false := by simp; omega
  have r0 : n0 ≤ 100 := by omega
  have r1 : n1 ≤ 100 := by omega
  have HL := Lib.hid (And.intro h0.len h1.len)
  have K0 := Lib.hid (show ArgsA a0 n0 c0 l0 a1 n1 c1 l1 w w from ⟨h0, h1, Below.refl _ _⟩)
  obtain ⟨i0, hi, hz0, hz1, hz2⟩ := info_parts info8
  have hz2' : i0.bytes = 1 := hz2
  obtain ⟨j0, hj, hy0, hy1, hy2⟩ := info_parts info16
  have hy2' : j0.bytes = 2 := hy2
  have HX := Lib.hid (And.intro hi (And.intro hz0 (And.intro hz1 hz2')))
  have HY := Lib.hid (And.intro hj (And.intro hy0 (And.intro hy1 hy2')))
  clear g0 g1 h0 h1 q0 q1 hi hz0 hz1 hz2 hz2' hj hy0 hy1 hy2 hy2'
  go_enter Try.func6, Try.ntmps6
  go_wp2_with (first
    | (at_builtin; refine wpList_append_list (f := b16) b16_one rfl (.tmp 27) (.tmp 28) 24 rfl w.heap.size 36 j0 (.int .u16 0) 2 Try.underlying24 HY.out.1 HY.out.2.1 HY.out.2.2.1 HY.out.2.2.2 rfl (.slice (some ⟨w.heap.size, 0, none⟩) 0 0) 0 [] rfl (own_none w _) a0 n0 c0 rfl (K0.out.one.on (below_al w _)) (by unfold maxLen; omega) (by omega) (by simp) ?_; intro v1 w1 hown1 hg1; simp only [Nat.zero_add, List.nil_append] at hown1; have HO1 := Lib.hid hown1; have HB1 := Lib.hid (up_one hg1); clear hown1 hg1)
    | (at_builtin; refine wpList_append_list (f := b16) b16_one rfl (.tmp 29) (.tmp 30) 24 rfl w.heap.size 36 j0 (.int .u16 0) 2 Try.underlying24 HY.out.1 HY.out.2.1 HY.out.2.2.1 HY.out.2.2.2 rfl v1 n0 _ rfl HO1.out a1 n1 c1 rfl (K0.out.on HB1.out).two (by unfold maxLen; omega) (by omega) HB1.out.size ?_; intro v2 w2 hown2 hg2; have HB2 := Lib.hid (up_two HB1.out HO1.out hg2); rw [← List.map_append] at hown2; obtain ⟨ab, cb, rfl, hsb⟩ := Sl.of_own hown2; have HSB := Lib.hid hsb; clear hown2 hg2 hsb))
  have K2 := Lib.hid (K0.out.on HB2.out)
  clear HO1 HB1 HB2 K0
  refine (PackRegs_any _ _ _ _ _ HSB.out (by omega)).mono ?_
  rintro e w3 ⟨p3, d3, rfl, hs3, hb3, -⟩
  have K3 := Lib.hid (K2.out.on hb3)
  have HS3 := Lib.hid hs3
  have hm3 : (putN (l0 ++ l1)).length ≤ 400 := by rw [length_putN, List.length_append, HL.out.1, HL.out.2]; omega
  clear hs3 hb3 K2 HSB
  generalize hM3 : (putN (l0 ++ l1)).length = m3 at *
  clear hM3
  have HB3 := Lib.hid (below_al w3 (.cells #[] 5))
  go_wp2_with fail
  refine (PackRegs_any _ _ _ _ _ (K3.out.on HB3.out).one (by omega)).mono ?_
  rintro e w4 ⟨p4, d4, rfl, hs4, hb4, -⟩
  have hm4 : (putN l0).length ≤ 200 := by rw [length_putN, HL.out.1]; omega
  have HB4 := Lib.hid (HB3.out.trans (hb4.mono HB3.out.size))
  have HS4 := Lib.hid hs4
  have HOE := Lib.hid (own_below (own_none w3 5) hb4)
  clear hs4 hb4 HB3
  generalize hM4 : (putN l0).length = m4 at *
  clear hM4
  go_wp2_with (at_builtin; refine wpList_append_list (f := b8) b8_one rfl (.tmp 34) (.tmp 36) 22 rfl w3.heap.size 5 i0 (.int .u8 0) 1 Try.underlying22 HX.out.1 HX.out.2.1 HX.out.2.2.1 HX.out.2.2.2 rfl (.slice (some ⟨w3.heap.size, 0, none⟩) 0 0) 0 [] rfl HOE.out p4 m4 d4 rfl HS4.out (by unfold maxLen; omega) (by omega) HB4.out.size ?_; intro v5 w5 hown5 hg5; simp only [Nat.zero_add, List.nil_append] at hown5; have HO5 := Lib.hid hown5; have HB5 := Lib.hid (up_two HB4.out HOE.out hg5); clear hown5 hg5)
  clear HOE HS4 HB4
  refine (PackRegs_any _ _ _ _ _ (K3.out.on HB5.out).two (by omega)).mono ?_
  rintro e w6 ⟨p6, d6, rfl, hs6, hb6, -⟩
  have hm6 : (putN l1).length ≤ 200 := by rw [length_putN, HL.out.2]; omega
  have HB6 := Lib.hid (HB5.out.trans (hb6.mono HB5.out.size))
  have HS6 := Lib.hid hs6
  have HO6 := Lib.hid (own_below HO5.out hb6)
  clear hs6 hb6 HB5 HO5
  generalize hM6 : (putN l1).length = m6 at *
  clear hM6
  go_wp2_with (at_builtin; refine wpList_append_list (f := b8) b8_one rfl (.tmp 37) (.tmp 39) 22 rfl w3.heap.size 5 i0 (.int .u8 0) 1 Try.underlying22 HX.out.1 HX.out.2.1 HX.out.2.2.1 HX.out.2.2.2 rfl v5 m4 _ rfl HO6.out p6 m6 d6 rfl HS6.out (by unfold maxLen; omega) (by omega) HB6.out.size ?_; intro v7 w7 hown7 hg7; rw [← List.map_append, ← putN_append] at hown7; have HB7 := Lib.hid (up_two HB6.out HO6.out hg7); obtain ⟨p7, d7, rfl, hs7⟩ := Sl.of_own hown7; have HT := Lib.hid (Same_any _ _ _ _ _ _ _ _ _ _ w7 (HS3.out.on HB7.out) hs7); rw [decide_eq_true rfl] at HT; clear hown7 hg7 hs7)
  have K7 := Lib.hid (K3.out.on HB7.out)
  clear HO6 HS6 HB6 HB7 HS3 K3
  refine HT.out.mono ?_
  rintro e w8 ⟨rfl, q8, rfl⟩
  have K8 := Lib.hid (K7.out.drewN q8)
  clear HT K7
  generalize w7.drewN q8 = w8 at *
  go_wp2_with fail
  refine (Parts_any x2 _ b2).mono ?_
  rintro e w' ⟨rfl, rfl⟩
  go_wp2_with fail
  refine (Parts_any x3 _ b3).mono ?_
  rintro e w' ⟨rfl, rfl⟩
  have HSG := Lib.hid (fun w => Signed_any x4 w b4)
  have HSH := Lib.hid (fun w => Signed_any x5 w b5)
  have HX4 := Lib.hid (xor_val b4)
  have HX5 := Lib.hid (xor_val b5)
  have hs4 : -32768 ≤ signedN x4 ∧ signedN x4 ≤ 32767 := by unfold signedN; split <;> omega
  have hs5 : -32768 ≤ signedN x5 ∧ signedN x5 ≤ 32767 := by unfold signedN; split <;> omega
  generalize signedN x4 = s4 at *
  generalize signedN x5 = s5 at *
  have hx4 := HX4.out
  have hx5 := HX5.out
  have tg : (decide (s4 < s5) == decide (s4 + 32768 < s5 + 32768)) = true := by rw [beq_iff_eq, decide_eq_decide]; omega
  have tl : decide (-32768 ≤ s4) = true := decide_eq_true hs4.1
  have tu : decide (s4 ≤ 32767) = true := decide_eq_true hs4.2
  by_cases gg : x2 / 65536 < x3 / 65536
  · have u1 : decide ((x2 : Int) < (x3 : Int)) = true := by simp; omega
    have u0 : decide (x2 < x3) = true := by simp; omega
    have u2 : decide ((x2 : Int) / 65536 < (x3 : Int) / 65536) = true := by simp; omega
    go_wp2_with fail
    refine (HSG.out _).mono ?_
    rintro e w' ⟨rfl, rfl⟩
    go_wp2_with fail
    refine (HSH.out _).mono ?_
    rintro e w' ⟨rfl, rfl⟩
    go_wp2_with fail
    refine (HSG.out _).mono ?_
    rintro e w' ⟨rfl, rfl⟩
    go_wp2_with fail
    refine (HSG.out _).mono ?_
    rintro e w' ⟨rfl, rfl⟩
    go_wp2_with fail
    refine (HAW.out _).mono ?_
    rintro e wE ⟨rfl, hbE⟩
    have KE := Lib.hid (K8.out.on hbE)
    go_wp2_with fail
    go_ret
    exact ⟨ret_bool rfl, KE.out.below⟩
  by_cases ge : x2 / 65536 = x3 / 65536
  · have u2 : decide ((x2 : Int) / 65536 < (x3 : Int) / 65536) = false := by simp; omega
    have u3 : ((x2 : Int) / 65536 == (x3 : Int) / 65536) = true := by rw [beq_iff_eq]; omega
    by_cases gq : x2 % 65536 < x3 % 65536
    · have u1 : decide ((x2 : Int) < (x3 : Int)) = true := by simp; omega
      have u0 : decide (x2 < x3) = true := by simp; omega
      have u4 : decide ((x2 : Int) % 65536 < (x3 : Int) % 65536) = true := by simp; omega
      go_wp2_with fail
      refine (HSG.out _).mono ?_
      rintro e w' ⟨rfl, rfl⟩
      go_wp2_with fail
      refine (HSH.out _).mono ?_
      rintro e w' ⟨rfl, rfl⟩
      go_wp2_with fail
      refine (HSG.out _).mono ?_
      rintro e w' ⟨rfl, rfl⟩
      go_wp2_with fail
      refine (HSG.out _).mono ?_
      rintro e w' ⟨rfl, rfl⟩
      go_wp2_with fail
      refine (HAW.out _).mono ?_
      rintro e wE ⟨rfl, hbE⟩
      have KE := Lib.hid (K8.out.on hbE)
      go_wp2_with fail
      go_ret
      exact ⟨ret_bool rfl, KE.out.below⟩
    · have u1 : decide ((x2 : Int) < (x3 : Int)) = false := by simp; omega
      have u0 : decide (x2 < x3) = false := by simp; omega
      have u4 : decide ((x2 : Int) % 65536 < (x3 : Int) % 65536) = false := by simp; omega
      go_wp2_with fail
      refine (HSG.out _).mono ?_
      rintro e w' ⟨rfl, rfl⟩
      go_wp2_with fail
      refine (HSH.out _).mono ?_
      rintro e w' ⟨rfl, rfl⟩
      go_wp2_with fail
      refine (HSG.out _).mono ?_
      rintro e w' ⟨rfl, rfl⟩
      go_wp2_with fail
      refine (HSG.out _).mono ?_
      rintro e w' ⟨rfl, rfl⟩
      go_wp2_with fail
      refine (HAW.out _).mono ?_
      rintro e wE ⟨rfl, hbE⟩
      have KE := Lib.hid (K8.out.on hbE)
      go_wp2_with fail
      go_ret
      exact ⟨ret_bool rfl, KE.out.below⟩
  · have u1 : decide ((x2 : Int) < (x3 : Int)) = false := by simp; omega
    have u0 : decide (x2 < x3) = false := by simp; omega
    have u2 : decide ((x2 : Int) / 65536 < (x3 : Int) / 65536) = false := by simp; omega
    have u3 : ((x2 : Int) / 65536 == (x3 : Int) / 65536) = false := by rw [beq_eq_false_iff_ne]; omega
    go_wp2_with fail
    refine (HSG.out _).mono ?_
    rintro e w' ⟨rfl, rfl⟩
    go_wp2_with fail
    refine (HSH.out _).mono ?_
    rintro e w' ⟨rfl, rfl⟩
    go_wp2_with fail
    refine (HSG.out _).mono ?_
    rintro e w' ⟨rfl, rfl⟩
    go_wp2_with fail
    refine (HSG.out _).mono ?_
    rintro e w' ⟨rfl, rfl⟩
    go_wp2_with fail
    refine (HAW.out _).mono ?_
    rintro e wE ⟨rfl, hbE⟩
    have KE := Lib.hid (K8.out.on hbE)
    go_wp2_with fail
    go_ret
    exact ⟨ret_bool rfl, KE.out.below⟩
end Go.Proofs.Ytmcclopkmoomeaa.WdW
