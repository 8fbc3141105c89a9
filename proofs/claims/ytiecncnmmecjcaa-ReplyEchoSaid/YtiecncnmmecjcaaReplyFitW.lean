/- Which replies fit a request that reads words. -/
import Derived.Test.YtiecncnmmecjcaaReplyFill
open Go.RowKit
namespace Go.Proofs.Ytiecncnmmecjcaa.ReplyW
open AskM ReplyM AskW Mem

/-- Which replies fit a request that reads words. -/
def fitsWords (a : Req) (r : Rep) : Bool := rightN a && rrightN r && decide (a.fn = r.fn) && (decide (0 < r.ex.toNat) || decide (r.words.length = a.many.toNat))
set_option maxRecDepth 100000 in
set_option maxHeartbeats 8000000 in
theorem FitsWords_any (a : Req) (aw : Option Addr) (cw : Nat) (ab : Option Addr) (cb : Nat) (r : Rep) (rw_ : Option Addr) (dw : Nat) (rb : Option Addr) (db : Nat) (w : World) (hA : AskAt w w.heap.size a aw cw ab cb) (hR : RepAt w w.heap.size r rw_ dw rb db)
    (hnw : a.words.length ≤ 1000000) (hnb : a.bits.length ≤ 1000000) (hf : a.fn.toNat = 3 ∨ a.fn.toNat = 4 ∨ a.fn.toNat = 23) :
    Calls Try.prog 41 #[askV a aw cw ab cb, repV r rw_ dw rb db] w (Says (.bool (fitsWords a r)) w) := by
  have hB0 : Boxed w #[b8 a.fn, b16 a.at_, b16 a.many, b16 a.to_, .slice aw a.words.length cw, .slice ab a.bits.length cb] #[b8 r.fn, b8 r.ex, .slice rb r.bits.length db, .slice rw_ r.words.length dw, b16 r.at_, b16 r.many] 26 48 ((w.alloc (.cells #[b8 a.fn, b16 a.at_, b16 a.many, b16 a.to_, .slice aw a.words.length cw, .slice ab a.bits.length cb] 26)).alloc (.cells #[b8 r.fn, b8 r.ex, .slice rb r.bits.length db, .slice rw_ r.words.length dw, b16 r.at_, b16 r.many] 48)) := Below.refl _ _
  have HB := Lib.hid hB0
  have HR := Lib.hid hR
  clear hA hR hB0
  obtain ⟨f1, a1, m1, t1, ws, bs⟩ := a
  obtain ⟨g1, x1, b1, s1, c1, n1⟩ := r
  simp only at hnw hnb hf
  have hm1 := m1.toNat_lt
  obtain ⟨z1, hz1⟩ : ∃ z, rightN ⟨f1, a1, m1, t1, ws, bs⟩ = z := ⟨_, rfl⟩
  obtain ⟨z2, hz2⟩ : ∃ z, rrightN ⟨g1, x1, b1, s1, c1, n1⟩ = z := ⟨_, rfl⟩
  have HF : Hid (fitsWords ⟨f1, a1, m1, t1, ws, bs⟩ ⟨g1, x1, b1, s1, c1, n1⟩ = (z1 && z2 && decide (f1 = g1) && (decide (0 < x1.toNat) || decide (s1.length = m1.toNat)))) := Lib.hid (by unfold fitsWords; rw [hz1, hz2])
  have HZ1 := Lib.hid hz1
  have HZ2 := Lib.hid hz2
  rw [HF.out]
  clear hz1 hz2 HF
  cases z1
  · go_enter Try.func41, Try.ntmps41
    go_wp2_with fail
    refine (Right_any ⟨f1, a1, m1, t1, ws, bs⟩ aw cw ab cb _ hnw hnb).mono ?_
    rw [HZ1.out]
    rintro e w1 ⟨rfl, hb⟩
    have HB1 := Lib.hid (HB.out.on (hb.mono HB.out.size))
    clear hb
    go_wp2_with fail
    go_ret
    exact ⟨by simp, HB1.out.below⟩
  have step : ∀ (Q : Ending → World → Prop), (∀ w1, Boxed w #[b8 f1, b16 a1, b16 m1, b16 t1, .slice aw ws.length cw, .slice ab bs.length cb] #[b8 g1, b8 x1, .slice rb b1.length db, .slice rw_ s1.length dw, b16 c1, b16 n1] 26 48 w1 → Q (.returned (.bool true)) w1) → Calls Try.prog 15 #[askV ⟨f1, a1, m1, t1, ws, bs⟩ aw cw ab cb] ((w.alloc (.cells #[b8 f1, b16 a1, b16 m1, b16 t1, .slice aw ws.length cw, .slice ab bs.length cb] 26)).alloc (.cells #[b8 g1, b8 x1, .slice rb b1.length db, .slice rw_ s1.length dw, b16 c1, b16 n1] 48)) Q := by
    intro Q hQ
    refine (Right_any ⟨f1, a1, m1, t1, ws, bs⟩ aw cw ab cb _ hnw hnb).mono ?_
    rw [HZ1.out]
    rintro e w1 ⟨rfl, hb⟩
    exact hQ w1 (HB.out.on (hb.mono HB.out.size))
  have step2 : ∀ (Q : Ending → World → Prop) (w1 : World), Boxed w #[b8 f1, b16 a1, b16 m1, b16 t1, .slice aw ws.length cw, .slice ab bs.length cb] #[b8 g1, b8 x1, .slice rb b1.length db, .slice rw_ s1.length dw, b16 c1, b16 n1] 26 48 w1 → (∀ w2, Boxed w #[b8 f1, b16 a1, b16 m1, b16 t1, .slice aw ws.length cw, .slice ab bs.length cb] #[b8 g1, b8 x1, .slice rb b1.length db, .slice rw_ s1.length dw, b16 c1, b16 n1] 26 48 w2 → Q (.returned (.bool z2)) w2) → Calls Try.prog 34 #[repV ⟨g1, x1, b1, s1, c1, n1⟩ rw_ dw rb db] w1 Q := by
    intro Q w1 hb1 hQ
    refine (RRight_any ⟨g1, x1, b1, s1, c1, n1⟩ rw_ dw rb db w1 (HR.out.below hb1.below)).mono ?_
    rw [HZ2.out]
    rintro e w2 ⟨rfl, hb⟩
    exact hQ w2 (hb1.on (hb.mono hb1.size))
  have HS1 := Lib.hid step
  have HS2 := Lib.hid step2
  clear step step2
  cases z2
  · go_enter Try.func41, Try.ntmps41
    go_wp2_with fail
    refine HS1.out _ fun w1 hb1 => ?_
    have HB1 := Lib.hid hb1
    have C2 := hb1.two
    clear hb1
    go_wp2_with fail
    refine HS2.out _ _ HB1.out fun w2 hb2 => ?_
    have HB2 := Lib.hid hb2
    clear hb2 C2
    go_wp2_with fail
    go_ret
    exact ⟨by simp, HB2.out.below⟩
  by_cases hfg : f1 = g1
  case neg =>
    have hne : ((f1.toNat : Int) != (g1.toNat : Int)) = true := by
      have : ¬ f1.toNat = g1.toNat := fun h => hfg (UInt8.toNat_inj.1 h)
      simp; omega
    have HD : Hid (decide (f1 = g1) = false) := Lib.hid (by simp [hfg])
    rw [HD.out]
    clear hfg hf
    go_enter Try.func41, Try.ntmps41
    go_wp2_with fail
    refine HS1.out _ fun w1 hb1 => ?_
    have HB1 := Lib.hid hb1
    have C2 := hb1.two
    clear hb1
    go_wp2_with fail
    refine HS2.out _ _ HB1.out fun w2 hb2 => ?_
    have HB2 := Lib.hid hb2
    have D1 := hb2.one
    have D2 := hb2.two
    clear hb2 C2
    go_wp2_with fail
    go_ret
    exact ⟨by simp, HB2.out.below⟩
  subst hfg
  have hne : ((f1.toNat : Int) != (f1.toNat : Int)) = false := by simp
  by_cases hx : 0 < x1.toNat
  · have e1 : decide ((0 : Int) < (x1.toNat : Int)) = true := by simp; omega
    have e2 : decide (0 < x1.toNat) = true := by simp; omega
    rw [e2]
    clear hx hf
    go_enter Try.func41, Try.ntmps41
    go_wp2_with fail
    refine HS1.out _ fun w1 hb1 => ?_
    have HB1 := Lib.hid hb1
    have C2 := hb1.two
    clear hb1
    go_wp2_with fail
    refine HS2.out _ _ HB1.out fun w2 hb2 => ?_
    have HB2 := Lib.hid hb2
    have D1 := hb2.one
    have D2 := hb2.two
    clear hb2 C2
    go_wp2_with fail
    go_ret
    exact ⟨by simp, HB2.out.below⟩
  have e1 : decide ((0 : Int) < (x1.toNat : Int)) = false := by simp; omega
  have e2 : decide (0 < x1.toNat) = false := by simp; omega
  rw [e2]
  clear hx
  obtain ⟨z, hz⟩ : ∃ z : Bool, ((s1.length : Int) == (m1.toNat : Int)) = z := ⟨_, rfl⟩
  have HZ : Hid (decide (s1.length = m1.toNat) = z) := Lib.hid (by rw [← hz, Bool.eq_iff_iff]; simp; omega)
  rcases hf with hf | hf | hf
  · have k1 : ((f1.toNat : Int) == 1) = false := by simp; omega
    have k2 : ((f1.toNat : Int) == 2) = false := by simp; omega
    have k3 : ((f1.toNat : Int) == 3) = true := by simp; omega
    clear hf
    go_enter Try.func41, Try.ntmps41
    go_wp2_with fail
    refine HS1.out _ fun w1 hb1 => ?_
    have HB1 := Lib.hid hb1
    have C2 := hb1.two
    clear hb1
    go_wp2_with fail
    refine HS2.out _ _ HB1.out fun w2 hb2 => ?_
    have HB2 := Lib.hid hb2
    have D1 := hb2.one
    have D2 := hb2.two
    clear hb2 C2
    go_wp2_with fail
    go_ret
    exact ⟨ret_bool (by rw [HZ.out]; simp), HB2.out.below⟩
  · have k1 : ((f1.toNat : Int) == 1) = false := by simp; omega
    have k2 : ((f1.toNat : Int) == 2) = false := by simp; omega
    have k3 : ((f1.toNat : Int) == 3) = false := by simp; omega
    have k4 : ((f1.toNat : Int) == 4) = true := by simp; omega
    clear hf
    go_enter Try.func41, Try.ntmps41
    go_wp2_with fail
    refine HS1.out _ fun w1 hb1 => ?_
    have HB1 := Lib.hid hb1
    have C2 := hb1.two
    clear hb1
    go_wp2_with fail
    refine HS2.out _ _ HB1.out fun w2 hb2 => ?_
    have HB2 := Lib.hid hb2
    have D1 := hb2.one
    have D2 := hb2.two
    clear hb2 C2
    go_wp2_with fail
    go_ret
    exact ⟨ret_bool (by rw [HZ.out]; simp), HB2.out.below⟩
  · have k1 : ((f1.toNat : Int) == 1) = false := by simp; omega
    have k2 : ((f1.toNat : Int) == 2) = false := by simp; omega
    have k3 : ((f1.toNat : Int) == 3) = false := by simp; omega
    have k4 : ((f1.toNat : Int) == 4) = false := by simp; omega
    have k23 : ((f1.toNat : Int) == 23) = true := by simp; omega
    clear hf
    go_enter Try.func41, Try.ntmps41
    go_wp2_with fail
    refine HS1.out _ fun w1 hb1 => ?_
    have HB1 := Lib.hid hb1
    have C2 := hb1.two
    clear hb1
    go_wp2_with fail
    refine HS2.out _ _ HB1.out fun w2 hb2 => ?_
    have HB2 := Lib.hid hb2
    have D1 := hb2.one
    have D2 := hb2.two
    clear hb2 C2
    go_wp2_with fail
    go_ret
    exact ⟨ret_bool (by rw [HZ.out]; simp), HB2.out.below⟩
end Go.Proofs.Ytiecncnmmecjcaa.ReplyW
