/- Which replies fit a request that writes; and which fit any. -/
import Derived.Test.YtiecncnmmecjcaaReplyFitW
import Derived.Test.YtiecncnmmecjcaaReplyEcho
open Go.RowKit
namespace Go.Proofs.Ytiecncnmmecjcaa.ReplyW
open AskM ReplyM AskW Mem

/-- Which replies fit a request that writes. -/
def fitsEcho (a : Req) (r : Rep) : Bool := rightN a && rrightN r && decide (a.fn = r.fn) && (decide (0 < r.ex.toNat) || decide (echoN a = some r))
set_option maxRecDepth 100000 in
set_option maxHeartbeats 8000000 in
theorem FitsEcho_any (a : Req) (aw : Option Addr) (cw : Nat) (ab : Option Addr) (cb : Nat) (r : Rep) (rw_ : Option Addr) (dw : Nat) (rb : Option Addr) (db : Nat) (w : World) (hA : AskAt w w.heap.size a aw cw ab cb) (hR : RepAt w w.heap.size r rw_ dw rb db)
    (hnw : a.words.length ≤ 1000000) (hnb : a.bits.length ≤ 1000000) (hf : a.fn.toNat = 5 ∨ a.fn.toNat = 6 ∨ a.fn.toNat = 15 ∨ a.fn.toNat = 16) :
    Calls Try.prog 41 #[askV a aw cw ab cb, repV r rw_ dw rb db] w (Says (.bool (fitsEcho a r)) w) := by
  have hB0 : Boxed w #[b8 a.fn, b16 a.at_, b16 a.many, b16 a.to_, .slice aw a.words.length cw, .slice ab a.bits.length cb] #[b8 r.fn, b8 r.ex, .slice rb r.bits.length db, .slice rw_ r.words.length dw, b16 r.at_, b16 r.many] 26 48 ((w.alloc (.cells #[b8 a.fn, b16 a.at_, b16 a.many, b16 a.to_, .slice aw a.words.length cw, .slice ab a.bits.length cb] 26)).alloc (.cells #[b8 r.fn, b8 r.ex, .slice rb r.bits.length db, .slice rw_ r.words.length dw, b16 r.at_, b16 r.many] 48)) := Below.refl _ _
  have HB := Lib.hid hB0
  have HR := Lib.hid hR
  have HA := Lib.hid hA
  clear hA hR hB0
  obtain ⟨f1, a1, m1, t1, ws, bs⟩ := a
  obtain ⟨g1, x1, b1, s1, c1, n1⟩ := r
  simp only at hnw hnb hf
  have hm1 := m1.toNat_lt
  obtain ⟨z1, hz1⟩ : ∃ z, rightN ⟨f1, a1, m1, t1, ws, bs⟩ = z := ⟨_, rfl⟩
  obtain ⟨z2, hz2⟩ : ∃ z, rrightN ⟨g1, x1, b1, s1, c1, n1⟩ = z := ⟨_, rfl⟩
  have HF : Hid (fitsEcho ⟨f1, a1, m1, t1, ws, bs⟩ ⟨g1, x1, b1, s1, c1, n1⟩ = (z1 && z2 && decide (f1 = g1) && (decide (0 < x1.toNat) || decide (echoN ⟨f1, a1, m1, t1, ws, bs⟩ = some ⟨g1, x1, b1, s1, c1, n1⟩)))) := Lib.hid (by unfold fitsEcho; rw [hz1, hz2])
  have HZ1 := Lib.hid hz1
  have HZ2 := Lib.hid hz2
  rw [HF.out]
  clear hz1 hz2 HF
  cases z1
  · go_enter Try.func41, Try.ntmps41
    go_wp2_with fail
    refine (Right_any ⟨f1, a1, m1, t1, ws, bs⟩ aw cw ab cb _ hnw hnb).mono ?_
    rw [HZ1.out]
    rintro e w1 ⟨rfl, hb⟩
    have HB1 := Lib.hid (HB.out.on (hb.mono HB.out.size))
    clear hb
    go_wp2_with fail
    go_ret
    exact ⟨by simp, HB1.out.below⟩
  have step : ∀ (Q : Ending → World → Prop), (∀ w1, Boxed w #[b8 f1, b16 a1, b16 m1, b16 t1, .slice aw ws.length cw, .slice ab bs.length cb] #[b8 g1, b8 x1, .slice rb b1.length db, .slice rw_ s1.length dw, b16 c1, b16 n1] 26 48 w1 → Q (.returned (.bool true)) w1) → Calls Try.prog 15 #[askV ⟨f1, a1, m1, t1, ws, bs⟩ aw cw ab cb] ((w.alloc (.cells #[b8 f1, b16 a1, b16 m1, b16 t1, .slice aw ws.length cw, .slice ab bs.length cb] 26)).alloc (.cells #[b8 g1, b8 x1, .slice rb b1.length db, .slice rw_ s1.length dw, b16 c1, b16 n1] 48)) Q := by
    intro Q hQ
    refine (Right_any ⟨f1, a1, m1, t1, ws, bs⟩ aw cw ab cb _ hnw hnb).mono ?_
    rw [HZ1.out]
    rintro e w1 ⟨rfl, hb⟩
    exact hQ w1 (HB.out.on (hb.mono HB.out.size))
  have step2 : ∀ (Q : Ending → World → Prop) (w1 : World), Boxed w #[b8 f1, b16 a1, b16 m1, b16 t1, .slice aw ws.length cw, .slice ab bs.length cb] #[b8 g1, b8 x1, .slice rb b1.length db, .slice rw_ s1.length dw, b16 c1, b16 n1] 26 48 w1 → (∀ w2, Boxed w #[b8 f1, b16 a1, b16 m1, b16 t1, .slice aw ws.length cw, .slice ab bs.length cb] #[b8 g1, b8 x1, .slice rb b1.length db, .slice rw_ s1.length dw, b16 c1, b16 n1] 26 48 w2 → Q (.returned (.bool z2)) w2) → Calls Try.prog 34 #[repV ⟨g1, x1, b1, s1, c1, n1⟩ rw_ dw rb db] w1 Q := by
    intro Q w1 hb1 hQ
    refine (RRight_any ⟨g1, x1, b1, s1, c1, n1⟩ rw_ dw rb db w1 (HR.out.below hb1.below)).mono ?_
    rw [HZ2.out]
    rintro e w2 ⟨rfl, hb⟩
    exact hQ w2 (hb1.on (hb.mono hb1.size))
  have HS1 := Lib.hid step
  have HS2 := Lib.hid step2
  clear step step2
  cases z2
  · go_enter Try.func41, Try.ntmps41
    go_wp2_with fail
    refine HS1.out _ fun w1 hb1 => ?_
    have HB1 := Lib.hid hb1
    have C2 := hb1.two
    clear hb1
    go_wp2_with fail
    refine HS2.out _ _ HB1.out fun w2 hb2 => ?_
    have HB2 := Lib.hid hb2
    clear hb2 C2
    go_wp2_with fail
    go_ret
    exact ⟨by simp, HB2.out.below⟩
  by_cases hfg : f1 = g1
  case neg =>
    have hne : ((f1.toNat : Int) != (g1.toNat : Int)) = true := by
      have : ¬ f1.toNat = g1.toNat := fun h => hfg (UInt8.toNat_inj.1 h)
      simp; omega
    have HD : Hid (decide (f1 = g1) = false) := Lib.hid (by simp [hfg])
    rw [HD.out]
    clear hfg hf
    go_enter Try.func41, Try.ntmps41
    go_wp2_with fail
    refine HS1.out _ fun w1 hb1 => ?_
    have HB1 := Lib.hid hb1
    have C2 := hb1.two
    clear hb1
    go_wp2_with fail
    refine HS2.out _ _ HB1.out fun w2 hb2 => ?_
    have HB2 := Lib.hid hb2
    have D1 := hb2.one
    have D2 := hb2.two
    clear hb2 C2
    go_wp2_with fail
    go_ret
    exact ⟨by simp, HB2.out.below⟩
  subst hfg
  have hne : ((f1.toNat : Int) != (f1.toNat : Int)) = false := by simp
  by_cases hx : 0 < x1.toNat
  · have e1 : decide ((0 : Int) < (x1.toNat : Int)) = true := by simp; omega
    have e2 : decide (0 < x1.toNat) = true := by simp; omega
    rw [e2]
    clear hx hf
    go_enter Try.func41, Try.ntmps41
    go_wp2_with fail
    refine HS1.out _ fun w1 hb1 => ?_
    have HB1 := Lib.hid hb1
    have C2 := hb1.two
    clear hb1
    go_wp2_with fail
    refine HS2.out _ _ HB1.out fun w2 hb2 => ?_
    have HB2 := Lib.hid hb2
    have D1 := hb2.one
    have D2 := hb2.two
    clear hb2 C2
    go_wp2_with fail
    go_ret
    exact ⟨by simp, HB2.out.below⟩
  have e1 : decide ((0 : Int) < (x1.toNat : Int)) = false := by simp; omega
  have e2 : decide (0 < x1.toNat) = false := by simp; omega
  rw [e2]
  have k1 : ((f1.toNat : Int) == 1) = false := by simp; omega
  have k2 : ((f1.toNat : Int) == 2) = false := by simp; omega
  have k3 : ((f1.toNat : Int) == 3) = false := by simp; omega
  have k4 : ((f1.toNat : Int) == 4) = false := by simp; omega
  have k23 : ((f1.toNat : Int) == 23) = false := by simp; omega
  clear hx hf
  cases hq : echoN ⟨f1, a1, m1, t1, ws, bs⟩ with
  | none =>
    have HQ := Lib.hid hq
    clear hq
    go_enter Try.func41, Try.ntmps41
    go_wp2_with fail
    refine HS1.out _ fun w1 hb1 => ?_
    have HB1 := Lib.hid hb1
    have C2 := hb1.two
    clear hb1
    go_wp2_with fail
    refine HS2.out _ _ HB1.out fun w2 hb2 => ?_
    have HB2 := Lib.hid hb2
    have D1 := hb2.one
    have D2 := hb2.two
    clear hb2 C2
    go_wp2_with fail
    refine (Echo_any ⟨f1, a1, m1, t1, ws, bs⟩ aw cw ab cb w2 (HA.out.below HB2.out.below) hnw hnb).mono ?_
    rw [HQ.out]
    rintro e w3 ⟨aw3, cw3, ab3, cb3, rfl, hP, hb3, -⟩
    have HB3 := Lib.hid (HB2.out.on (hb3.mono HB2.out.size))
    have HP := Lib.hid hP
    clear hb3 hP D1 D2
    simp only [Option.getD_none, Option.isSome_none, zeroR]
    go_wp2_with fail
    go_ret
    exact ⟨ret_bool (by simp), HB3.out.below.alloc HB3.out.below.size _⟩
  | some q =>
    obtain ⟨g2, y2, b2, s2, c2, n2⟩ := q
    have HQ := Lib.hid hq
    clear hq
    go_enter Try.func41, Try.ntmps41
    go_wp2_with fail
    refine HS1.out _ fun w1 hb1 => ?_
    have HB1 := Lib.hid hb1
    have C2 := hb1.two
    clear hb1
    go_wp2_with fail
    refine HS2.out _ _ HB1.out fun w2 hb2 => ?_
    have HB2 := Lib.hid hb2
    have D1 := hb2.one
    have D2 := hb2.two
    clear hb2 C2
    go_wp2_with fail
    refine (Echo_any ⟨f1, a1, m1, t1, ws, bs⟩ aw cw ab cb w2 (HA.out.below HB2.out.below) hnw hnb).mono ?_
    rw [HQ.out]
    rintro e w3 ⟨aw3, cw3, ab3, cb3, rfl, hP, hb3, -⟩
    have HB3 := Lib.hid (HB2.out.on (hb3.mono HB2.out.size))
    have HP := Lib.hid hP
    clear hb3 hP D1 D2
    simp only [Option.getD_some, Option.isSome_some]
    have E2 := fun (x : Obj) (o : Nat) => (World.cell?_alloc_lt w3 x ⟨w.heap.size + 1, o, none⟩ (by have := HB3.out.size; show w.heap.size + 1 < _; omega)).trans (HB3.out.two o)
    go_wp2_with fail
    refine (RSame_at _ _ ⟨f1, x1, b1, s1, c1, n1⟩ ⟨g2, y2, b2, s2, c2, n2⟩ rw_ dw rb db aw3 cw3 ab3 cb3 _ rfl rfl ((HR.out.below HB3.out.below).below ((Below.refl _ _).alloc (Nat.le_refl _) _)) (HP.out.below ((Below.refl _ _).alloc (Nat.le_refl _) _))).mono ?_
    rintro e w4 ⟨rfl, hb4⟩
    obtain ⟨z, hz⟩ : ∃ z, decide ((⟨f1, x1, b1, s1, c1, n1⟩ : Rep) = ⟨g2, y2, b2, s2, c2, n2⟩) = z := ⟨_, rfl⟩
    have HZ : Hid (decide ((some (⟨g2, y2, b2, s2, c2, n2⟩ : Rep)) = some ⟨f1, x1, b1, s1, c1, n1⟩) = z) := Lib.hid (by rw [← hz, Bool.eq_iff_iff, decide_eq_true_eq, decide_eq_true_eq, Option.some.injEq]; exact eq_comm)
    rw [hz]
    clear hz
    have HB4 := Lib.hid (says_on HB3.out.below hb4)
    clear hb4 E2
    go_wp2_with fail
    go_ret
    exact ⟨ret_bool (by rw [HZ.out]; simp), HB4.out⟩
/-- No reply fits a request that is not right. -/
theorem FitsNot_any (a : Req) (aw : Option Addr) (cw : Nat) (ab : Option Addr) (cb : Nat) (r : Rep) (rw_ : Option Addr) (dw : Nat) (rb : Option Addr) (db : Nat) (w : World)
    (hnw : a.words.length ≤ 1000000) (hnb : a.bits.length ≤ 1000000) (hf : rightN a = false) :
    Calls Try.prog 41 #[askV a aw cw ab cb, repV r rw_ dw rb db] w (Says (.bool false) w) := by
  obtain ⟨f1, a1, m1, t1, ws, bs⟩ := a
  obtain ⟨g1, x1, b1, s1, c1, n1⟩ := r
  simp only at hnw hnb
  have HF := Lib.hid hf
  clear hf
  go_enter Try.func41, Try.ntmps41
  go_wp2_with fail
  refine (Right_any ⟨f1, a1, m1, t1, ws, bs⟩ aw cw ab cb _ hnw hnb).mono ?_
  rw [HF.out]
  rintro e w1 ⟨rfl, hb⟩
  have HB1 := Lib.hid ((below_two w _ _).trans (hb.mono (by simp; omega)))
  clear hb
  go_wp2_with fail
  go_ret
  exact ⟨rfl, HB1.out⟩
/-- Which replies fit which requests. -/
def fitsN (a : Req) (r : Rep) : Bool :=
  if a.fn.toNat = 1 ∨ a.fn.toNat = 2 then fitsBits a r
  else if a.fn.toNat = 3 ∨ a.fn.toNat = 4 ∨ a.fn.toNat = 23 then fitsWords a r
  else if a.fn.toNat = 5 ∨ a.fn.toNat = 6 ∨ a.fn.toNat = 15 ∨ a.fn.toNat = 16 then fitsEcho a r
  else false
theorem right_fn {a : Req} (h : rightN a = true) : (a.fn.toNat = 1 ∨ a.fn.toNat = 2) ∨ (a.fn.toNat = 3 ∨ a.fn.toNat = 4 ∨ a.fn.toNat = 23) ∨ (a.fn.toNat = 5 ∨ a.fn.toNat = 6 ∨ a.fn.toNat = 15 ∨ a.fn.toNat = 16) := by
  unfold rightN at h
  cases hr : rowN a.fn.toNat with
  | none => rw [hr] at h; cases h
  | some F => rcases rowN_cases hr with h | h | h | h | h | h | h <;> omega
theorem Fits_any (a : Req) (aw : Option Addr) (cw : Nat) (ab : Option Addr) (cb : Nat) (r : Rep) (rw_ : Option Addr) (dw : Nat) (rb : Option Addr) (db : Nat) (w : World) (hA : AskAt w w.heap.size a aw cw ab cb) (hR : RepAt w w.heap.size r rw_ dw rb db)
    (hnw : a.words.length ≤ 1000000) (hnb : a.bits.length ≤ 1000000) :
    Calls Try.prog 41 #[askV a aw cw ab cb, repV r rw_ dw rb db] w (Says (.bool (fitsN a r)) w) := by
  unfold fitsN
  by_cases h1 : a.fn.toNat = 1 ∨ a.fn.toNat = 2
  · rw [if_pos h1]; exact FitsBits_any a aw cw ab cb r rw_ dw rb db w hA hR hnw hnb h1
  by_cases h2 : a.fn.toNat = 3 ∨ a.fn.toNat = 4 ∨ a.fn.toNat = 23
  · rw [if_neg h1, if_pos h2]; exact FitsWords_any a aw cw ab cb r rw_ dw rb db w hA hR hnw hnb h2
  by_cases h3 : a.fn.toNat = 5 ∨ a.fn.toNat = 6 ∨ a.fn.toNat = 15 ∨ a.fn.toNat = 16
  · rw [if_neg h1, if_neg h2, if_pos h3]; exact FitsEcho_any a aw cw ab cb r rw_ dw rb db w hA hR hnw hnb h3
  · rw [if_neg h1, if_neg h2, if_neg h3]
    refine FitsNot_any a aw cw ab cb r rw_ dw rb db w hnw hnb ?_
    cases h : rightN a
    · rfl
    · rcases right_fn h with h | h | h
      · exact absurd h h1
      · exact absurd h h2
      · exact absurd h h3
end Go.Proofs.Ytiecncnmmecjcaa.ReplyW
