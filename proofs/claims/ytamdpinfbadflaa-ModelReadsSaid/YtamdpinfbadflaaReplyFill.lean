/- Bits that fill the last byte; which replies fit a request that reads bits. -/
import Derived.Test.YtamdpinfbadflaaReplyParse
import Derived.Test.YtamdpinfbadflaaAskAwake
open Go.RowKit
namespace Go.Proofs.Ytamdpinfbadflaa.ReplyW
open AskM ReplyM AskW Mem

def anyOn (l : List Bool) : Bool := l.any id
def Idx (l : List Bool) (w : World) (e : Ending) (w' : World) : Prop := ∃ z : Int, e = .returned (.int .i64 z) ∧ decide (0 ≤ z) = anyOn l ∧ -1 ≤ z ∧ z ≤ 9223372036854775807 ∧ w = w'
theorem Idx.mk {l : List Bool} {w : World} {z : Int} (h : decide (0 ≤ z) = anyOn l) (h1 : -1 ≤ z) (h2 : z ≤ 9223372036854775807) : Idx l w (.returned (.int .i64 z)) w := ⟨z, rfl, h, h1, h2, rfl⟩
theorem any_take {l : List Bool} {k : Nat} (h : l[k]? = some false) (ht : anyOn (l.take k) = false) : anyOn (l.take (k + 1)) = false := by
  have : l.take (k + 1) = l.take k ++ [false] := by rw [List.take_add_one, h]; rfl
  unfold anyOn at *
  rw [this, List.any_append, ht]
  rfl
theorem any_on {l : List Bool} {k : Nat} (h : l[k]? = some true) : anyOn l = true := by
  unfold anyOn
  exact List.any_eq_true.2 ⟨true, List.mem_of_getElem? h, rfl⟩
theorem Index_any (a : Option Addr) (n c : Nat) (l : List Bool) (B : Nat) (w : World) (hS : Sl Value.bool w B a n c l) :
    Calls Try.prog 70 #[.slice a n c, .bool true] w (Idx l w) := by
  have hn := len_le hS
  have hl := hS.len
  have HS := Lib.hid hS
  have HL := Lib.hid hl
  clear hS hl
  go_enter Try.func70, Try.ntmps70
  go_wp2_with fail
  go_loop [8] (fun i => ∃ k : Nat, k ≤ n ∧ i = .int .i64 k ∧ Hid (anyOn (l.take k) = false)) (fun i => n - (intOf i).toNat)
  case atStart => exact ⟨0, by omega, rfl, rfl⟩
  case round =>
    obtain ⟨k, hk, rfl, hno⟩ := hrel
    by_cases hlt : k < n
    · have ht : decide ((k : Int) < (n : Int)) = true := by simp; omega
      obtain ⟨b, off, x, rfl, hb, hx, hc⟩ := HS.out.at_ hlt
      cases x
      · have HN := Lib.hid (any_take hx hno.out)
        clear hx hno
        go_wp2_with fail
        go_round
        case rel => exact ⟨k + 1, by omega, by go_num, HN.out⟩
        case measure => simp [intOf]; omega
      · have HN := Lib.hid (any_on hx)
        clear hx hno
        go_wp2_with fail
        go_ret
        exact Idx.mk (by rw [HN.out]; simp) (by omega) (by omega)
    · obtain rfl : k = n := by omega
      have ht : decide ((k : Int) < (k : Int)) = false := by simp
      have HN : Hid (anyOn l = false) := by
        have h := hno.out
        rw [List.take_of_length_le (by have := HL.out; omega)] at h
        exact Lib.hid h
      clear hno
      go_wp2_with fail
      go_ret
      exact Idx.mk (by rw [HN.out]; rfl) (by omega) (by omega)
theorem Contains_any (a : Option Addr) (n c : Nat) (l : List Bool) (B : Nat) (w : World) (hS : Sl Value.bool w B a n c l) :
    Calls Try.prog 57 #[.slice a n c, .bool true] w fun e w' => e = .returned (.bool (anyOn l)) ∧ w = w' := by
  go_enter Try.func57, Try.ntmps57
  go_wp2_with fail
  refine (Index_any a n c l B w hS).mono ?_
  rintro e w1 ⟨z, rfl, hz, h1, h2, rfl⟩
  have HZ := Lib.hid hz
  clear hz
  go_wp2_with fail
  go_ret
  exact ⟨ret_bool HZ.out, rfl⟩
def filledN (l : List Bool) (m : Nat) : Bool := decide (l.length = (m + 7) / 8 * 8) && !anyOn (l.drop m)
theorem filled_any (a : Option Addr) (n c : Nat) (l : List Bool) (m B : Nat) (w : World) (hS : Sl Value.bool w B a n c l) (hm : m ≤ 65535) :
    Calls Try.prog 34 #[.slice a n c, .int .i64 (m : Int)] w fun e w' => e = .returned (.bool (filledN l m)) ∧ w = w' := by
  have hn := len_le hS
  have hl := hS.len
  by_cases he : n = (m + 7) / 8 * 8
  case neg =>
    have t1 : ((n : Int) == ((m : Int) + 7) / 8 * 8) = false := by simp; omega
    have HF : Hid (filledN l m = false) := Lib.hid (by unfold filledN; rw [hl]; simp [he])
    clear he hl
    go_enter Try.func34, Try.ntmps34
    go_wp2_with fail
    go_ret
    exact ⟨ret_bool HF.out.symm, rfl⟩
  have t1 : ((n : Int) == ((m : Int) + 7) / 8 * 8) = true := by simp; omega
  obtain ⟨z, hz⟩ : ∃ z, anyOn (l.drop m) = z := ⟨_, rfl⟩
  have HF : Hid (filledN l m = !z) := Lib.hid (by unfold filledN; rw [hl, hz]; simp [he])
  have hmn : m ≤ n := by omega
  have hs := hS.from_ hmn
  have hcc := hS.nle
  have HCO : ∀ v, v = Value.slice (if c = m then a else a.map (·.add m)) (n - m) (c - m) → Calls Try.prog 57 #[v, .bool true] w fun e w' => e = .returned (.bool z) ∧ w = w' := by
    rintro v rfl
    have := Contains_any _ _ _ _ _ w hs
    rwa [hz] at this
  have HC := Lib.hid HCO
  have HHE := Lib.hid he
  clear he hl hz hs HCO
  go_enter Try.func34, Try.ntmps34
  go_wp2_with fail
  · have hcm : c = m := by assumption
    refine (HC.out _ (by rw [if_pos hcm, hcm, Nat.sub_self])).mono ?_
    rintro e w1 ⟨rfl, rfl⟩
    go_wp2_with fail
    go_ret
    exact ⟨ret_bool HF.out.symm, rfl⟩
  · have hcm : ¬ c = m := by assumption
    refine (HC.out _ (by rw [if_neg hcm])).mono ?_
    rintro e w1 ⟨rfl, rfl⟩
    go_wp2_with fail
    go_ret
    exact ⟨ret_bool HF.out.symm, rfl⟩
/-- Which replies fit a request that reads bits. -/
def fitsBits (a : Req) (r : Rep) : Bool := rightN a && rrightN r && decide (a.fn = r.fn) && (decide (0 < r.ex.toNat) || filledN r.bits a.many.toNat)
set_option maxRecDepth 100000 in
set_option maxHeartbeats 8000000 in
theorem FitsBits_any (a : Req) (aw : Option Addr) (cw : Nat) (ab : Option Addr) (cb : Nat) (r : Rep) (rw_ : Option Addr) (dw : Nat) (rb : Option Addr) (db : Nat) (w : World) (_hA : AskAt w w.heap.size a aw cw ab cb) (hR : RepAt w w.heap.size r rw_ dw rb db)
    (hnw : a.words.length ≤ 1000000) (hnb : a.bits.length ≤ 1000000) (hf : a.fn.toNat = 1 ∨ a.fn.toNat = 2) :
    Calls Try.prog 15 #[askV a aw cw ab cb, repV r rw_ dw rb db] w (Says (.bool (fitsBits a r)) w) := by
  have hB0 : Boxed w #[b8 a.fn, b16 a.at_, b16 a.many, b16 a.to_, .slice aw a.words.length cw, .slice ab a.bits.length cb] #[b8 r.fn, b8 r.ex, .slice rb r.bits.length db, .slice rw_ r.words.length dw, b16 r.at_, b16 r.many] 31 36 ((w.alloc (.cells #[b8 a.fn, b16 a.at_, b16 a.many, b16 a.to_, .slice aw a.words.length cw, .slice ab a.bits.length cb] 31)).alloc (.cells #[b8 r.fn, b8 r.ex, .slice rb r.bits.length db, .slice rw_ r.words.length dw, b16 r.at_, b16 r.many] 36)) := Below.refl _ _
  have HB := Lib.hid hB0
  have HR := Lib.hid hR
  clear _hA hR hB0
  obtain ⟨f1, a1, m1, t1, ws, bs⟩ := a
  obtain ⟨g1, x1, b1, s1, c1, n1⟩ := r
  simp only at hnw hnb hf
  have hm1 := m1.toNat_lt
  obtain ⟨z1, hz1⟩ : ∃ z, rightN ⟨f1, a1, m1, t1, ws, bs⟩ = z := ⟨_, rfl⟩
  obtain ⟨z2, hz2⟩ : ∃ z, rrightN ⟨g1, x1, b1, s1, c1, n1⟩ = z := ⟨_, rfl⟩
  have HF : Hid (fitsBits ⟨f1, a1, m1, t1, ws, bs⟩ ⟨g1, x1, b1, s1, c1, n1⟩ = (z1 && z2 && decide (f1 = g1) && (decide (0 < x1.toNat) || filledN b1 m1.toNat))) := Lib.hid (by unfold fitsBits; rw [hz1, hz2])
  have HZ1 := Lib.hid hz1
  have HZ2 := Lib.hid hz2
  rw [HF.out]
  clear hz1 hz2 HF
  cases z1
  · go_enter Try.func15, Try.ntmps15
    go_wp2_with fail
    refine (Right_any ⟨f1, a1, m1, t1, ws, bs⟩ aw cw ab cb _ hnw hnb).mono ?_
    rw [HZ1.out]
    rintro e w1 ⟨rfl, hb⟩
    have HB1 := Lib.hid (HB.out.on (hb.mono HB.out.size))
    clear hb
    go_wp2_with fail
    go_ret
    exact ⟨by simp, HB1.out.below⟩
  have step : ∀ (Q : Ending → World → Prop), (∀ w1, Boxed w #[b8 f1, b16 a1, b16 m1, b16 t1, .slice aw ws.length cw, .slice ab bs.length cb] #[b8 g1, b8 x1, .slice rb b1.length db, .slice rw_ s1.length dw, b16 c1, b16 n1] 31 36 w1 → Q (.returned (.bool true)) w1) → Calls Try.prog 27 #[askV ⟨f1, a1, m1, t1, ws, bs⟩ aw cw ab cb] ((w.alloc (.cells #[b8 f1, b16 a1, b16 m1, b16 t1, .slice aw ws.length cw, .slice ab bs.length cb] 31)).alloc (.cells #[b8 g1, b8 x1, .slice rb b1.length db, .slice rw_ s1.length dw, b16 c1, b16 n1] 36)) Q := by
    intro Q hQ
    refine (Right_any ⟨f1, a1, m1, t1, ws, bs⟩ aw cw ab cb _ hnw hnb).mono ?_
    rw [HZ1.out]
    rintro e w1 ⟨rfl, hb⟩
    exact hQ w1 (HB.out.on (hb.mono HB.out.size))
  have step2 : ∀ (Q : Ending → World → Prop) (w1 : World), Boxed w #[b8 f1, b16 a1, b16 m1, b16 t1, .slice aw ws.length cw, .slice ab bs.length cb] #[b8 g1, b8 x1, .slice rb b1.length db, .slice rw_ s1.length dw, b16 c1, b16 n1] 31 36 w1 → (∀ w2, Boxed w #[b8 f1, b16 a1, b16 m1, b16 t1, .slice aw ws.length cw, .slice ab bs.length cb] #[b8 g1, b8 x1, .slice rb b1.length db, .slice rw_ s1.length dw, b16 c1, b16 n1] 31 36 w2 → Q (.returned (.bool z2)) w2) → Calls Try.prog 33 #[repV ⟨g1, x1, b1, s1, c1, n1⟩ rw_ dw rb db] w1 Q := by
    intro Q w1 hb1 hQ
    refine (RRight_any ⟨g1, x1, b1, s1, c1, n1⟩ rw_ dw rb db w1 (HR.out.below hb1.below)).mono ?_
    rw [HZ2.out]
    rintro e w2 ⟨rfl, hb⟩
    exact hQ w2 (hb1.on (hb.mono hb1.size))
  have HS1 := Lib.hid step
  have HS2 := Lib.hid step2
  clear step step2
  cases z2
  · go_enter Try.func15, Try.ntmps15
    go_wp2_with fail
    refine HS1.out _ fun w1 hb1 => ?_
    have HB1 := Lib.hid hb1
    have C2 := hb1.two
    clear hb1
    go_wp2_with fail
    refine HS2.out _ _ HB1.out fun w2 hb2 => ?_
    have HB2 := Lib.hid hb2
    clear hb2 C2
    go_wp2_with fail
    go_ret
    exact ⟨by simp, HB2.out.below⟩
  by_cases hfg : f1 = g1
  case neg =>
    have hne : ((f1.toNat : Int) != (g1.toNat : Int)) = true := by
      have : ¬ f1.toNat = g1.toNat := fun h => hfg (UInt8.toNat_inj.1 h)
      simp; omega
    have HD : Hid (decide (f1 = g1) = false) := Lib.hid (by simp [hfg])
    rw [HD.out]
    clear hfg hf
    go_enter Try.func15, Try.ntmps15
    go_wp2_with fail
    refine HS1.out _ fun w1 hb1 => ?_
    have HB1 := Lib.hid hb1
    have C2 := hb1.two
    clear hb1
    go_wp2_with fail
    refine HS2.out _ _ HB1.out fun w2 hb2 => ?_
    have HB2 := Lib.hid hb2
    have D1 := hb2.one
    have D2 := hb2.two
    clear hb2 C2
    go_wp2_with fail
    go_ret
    exact ⟨by simp, HB2.out.below⟩
  subst hfg
  have hne : ((f1.toNat : Int) != (f1.toNat : Int)) = false := by simp
  by_cases hx : 0 < x1.toNat
  · have e1 : decide ((0 : Int) < (x1.toNat : Int)) = true := by simp; omega
    have e2 : decide (0 < x1.toNat) = true := by simp; omega
    rw [e2]
    clear hx hf
    go_enter Try.func15, Try.ntmps15
    go_wp2_with fail
    refine HS1.out _ fun w1 hb1 => ?_
    have HB1 := Lib.hid hb1
    have C2 := hb1.two
    clear hb1
    go_wp2_with fail
    refine HS2.out _ _ HB1.out fun w2 hb2 => ?_
    have HB2 := Lib.hid hb2
    have D1 := hb2.one
    have D2 := hb2.two
    clear hb2 C2
    go_wp2_with fail
    go_ret
    exact ⟨by simp, HB2.out.below⟩
  have e1 : decide ((0 : Int) < (x1.toNat : Int)) = false := by simp; omega
  have e2 : decide (0 < x1.toNat) = false := by simp; omega
  rw [e2]
  obtain ⟨z, hz⟩ : ∃ z, filledN b1 m1.toNat = z := ⟨_, rfl⟩
  rw [hz]
  have HZ := Lib.hid hz
  clear hx hz
  rcases hf with hf | hf
  · have k1 : ((f1.toNat : Int) == 1) = true := by simp; omega
    clear hf
    go_enter Try.func15, Try.ntmps15
    go_wp2_with fail
    refine HS1.out _ fun w1 hb1 => ?_
    have HB1 := Lib.hid hb1
    have C2 := hb1.two
    clear hb1
    go_wp2_with fail
    refine HS2.out _ _ HB1.out fun w2 hb2 => ?_
    have HB2 := Lib.hid hb2
    have D1 := hb2.one
    have D2 := hb2.two
    clear hb2 C2
    go_wp2_with fail
    refine (filled_any rb b1.length db b1 m1.toNat _ w2 (HR.out.below HB2.out.below).bits (by omega)).mono ?_
    rw [HZ.out]
    rintro e w3 ⟨rfl, rfl⟩
    go_wp2_with fail
    go_ret
    exact ⟨by simp, HB2.out.below⟩
  · have k1 : ((f1.toNat : Int) == 1) = false := by simp; omega
    have k2 : ((f1.toNat : Int) == 2) = true := by simp; omega
    clear hf
    go_enter Try.func15, Try.ntmps15
    go_wp2_with fail
    refine HS1.out _ fun w1 hb1 => ?_
    have HB1 := Lib.hid hb1
    have C2 := hb1.two
    clear hb1
    go_wp2_with fail
    refine HS2.out _ _ HB1.out fun w2 hb2 => ?_
    have HB2 := Lib.hid hb2
    have D1 := hb2.one
    have D2 := hb2.two
    clear hb2 C2
    go_wp2_with fail
    refine (filled_any rb b1.length db b1 m1.toNat _ w2 (HR.out.below HB2.out.below).bits (by omega)).mono ?_
    rw [HZ.out]
    rintro e w3 ⟨rfl, rfl⟩
    go_wp2_with fail
    go_ret
    exact ⟨by simp, HB2.out.below⟩
end Go.Proofs.Ytamdpinfbadflaa.ReplyW
