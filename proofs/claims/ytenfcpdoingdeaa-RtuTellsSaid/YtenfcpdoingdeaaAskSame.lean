/- Same. -/
import Derived.Test.YtenfcpdoingdeaaAskEq
import Derived.Test.YtenfcpdoingdeaaAskWrite
open Go.RowKit
namespace Go.Proofs.Ytenfcpdoingdeaa.AskW
open AskM Mem

theorem ne8 {x y : UInt8} (h : ¬ x = y) : ((x.toNat : Int) == (y.toNat : Int)) = false := by
  simp only [beq_eq_false_iff_ne, ne_eq]; intro e; exact h (UInt8.toNat_inj.1 (by omega))
theorem ne16 {x y : UInt16} (h : ¬ x = y) : ((x.toNat : Int) == (y.toNat : Int)) = false := by
  simp only [beq_eq_false_iff_ne, ne_eq]; intro e; exact h (UInt16.toNat_inj.1 (by omega))
set_option maxHeartbeats 2000000 in
theorem Same_any (a o : Req) (aw : Option Addr) (cw : Nat) (ab : Option Addr) (cb : Nat) (ow : Option Addr) (dw : Nat) (ob : Option Addr) (db : Nat) (w : World) (hA : AskAt w w.heap.size a aw cw ab cb) (hO : AskAt w w.heap.size o ow dw ob db) :
    Calls Try.prog 12 #[askV a aw cw ab cb, askV o ow dw ob db] w (Says (.bool (decide (a = o))) w) := by
  have hA2 := fun o1 o2 => hA.two o1 o2
  have hO2 := fun o1 o2 => hO.two o1 o2
  clear hA hO
  obtain ⟨f1, a1, m1, t1, w1, b1⟩ := a
  obtain ⟨f2, a2, m2, t2, w2, b2⟩ := o
  by_cases hf : f1 = f2
  case neg =>
    have hne := ne8 hf
    have HN : Hid (decide ((⟨f1, a1, m1, t1, w1, b1⟩ : Req) = ⟨f2, a2, m2, t2, w2, b2⟩) = false) := Lib.hid (by simp [hf])
    clear hf
    go_enter Try.func12, Try.ntmps12
    go_wp2_with fail
    go_ret
    exact says_bool HN.out.symm (below_two _ _ _)
  subst hf
  by_cases ha : a1 = a2
  case neg =>
    have hne := ne16 ha
    have HN : Hid (decide ((⟨f1, a1, m1, t1, w1, b1⟩ : Req) = ⟨f1, a2, m2, t2, w2, b2⟩) = false) := Lib.hid (by simp [ha])
    clear ha
    go_enter Try.func12, Try.ntmps12
    go_wp2_with fail
    go_ret
    exact says_bool HN.out.symm (below_two _ _ _)
  subst ha
  by_cases hm : m1 = m2
  case neg =>
    have hne := ne16 hm
    have HN : Hid (decide ((⟨f1, a1, m1, t1, w1, b1⟩ : Req) = ⟨f1, a1, m2, t2, w2, b2⟩) = false) := Lib.hid (by simp [hm])
    clear hm
    go_enter Try.func12, Try.ntmps12
    go_wp2_with fail
    go_ret
    exact says_bool HN.out.symm (below_two _ _ _)
  subst hm
  by_cases ht : t1 = t2
  case neg =>
    have hne := ne16 ht
    have HN : Hid (decide ((⟨f1, a1, m1, t1, w1, b1⟩ : Req) = ⟨f1, a1, m1, t2, w2, b2⟩) = false) := Lib.hid (by simp [ht])
    clear ht
    go_enter Try.func12, Try.ntmps12
    go_wp2_with fail
    go_ret
    exact says_bool HN.out.symm (below_two _ _ _)
  subst ht
  by_cases hw : w1 = w2
  case neg =>
    have HN : Hid (decide ((⟨f1, a1, m1, t1, w1, b1⟩ : Req) = ⟨f1, a1, m1, t1, w2, b2⟩) = false) := Lib.hid (by simp [hw])
    have HW : Hid (decide (w1 = w2) = false) := Lib.hid (by simp [hw])
    clear hw
    go_enter Try.func12, Try.ntmps12
    go_wp2_with fail
    refine (EqualW_any _ _ _ _ _ _ _ _ _ _ _ (hA2 _ _).words (hO2 _ _).words).mono ?_
    intro e w' h
    have hb := h.below
    obtain ⟨rfl, -⟩ := h
    rw [HW.out]
    go_wp2_with fail
    go_ret
    exact says_bool HN.out.symm ((below_two _ _ _).trans (hb.mono (by simp; omega)))
  subst hw
  have hx : ∀ x y : Bool, decide (b1 = b2) = x → Calls Try.prog 12 #[askV ⟨f1, a1, m1, t1, w1, b1⟩ aw cw ab cb, askV ⟨f1, a1, m1, t1, w1, b2⟩ ow dw ob db] w (Says (.bool (decide ((⟨f1, a1, m1, t1, w1, b1⟩ : Req) = ⟨f1, a1, m1, t1, w1, b2⟩))) w) := by
    intro x y hbb
    have HN : Hid (decide ((⟨f1, a1, m1, t1, w1, b1⟩ : Req) = ⟨f1, a1, m1, t1, w1, b2⟩) = x) := Lib.hid (by rw [← hbb]; simp)
    have HB := Lib.hid hbb
    clear hbb
    go_enter Try.func12, Try.ntmps12
    go_wp2_with fail
    refine (EqualW_any _ _ _ _ _ _ _ _ _ _ _ (hA2 _ _).words (hO2 _ _).words).mono ?_
    intro e w' h
    have hb := (below_two w _ _).trans (h.below.mono (by simp; omega))
    have hA3 := (hA2 _ _).below h.below
    have hO3 := (hO2 _ _).below h.below
    have hc1 := fun o => (h.below.cell (p := ⟨w.heap.size, o, none⟩) (by simp; omega)).trans (World.cell?_alloc_lt _ _ _ (by simp))
    have hc2 := fun o => h.below.cell (p := ⟨w.heap.size + 1, o, none⟩) (by simp)
    obtain ⟨rfl, -⟩ := h
    rw [show decide (w1 = w1) = true by simp]
    have HA := Lib.hid hA3
    have HO := Lib.hid hO3
    have HBB := Lib.hid hb
    clear hA3 hO3 hb hA2 hO2
    go_wp2_with fail
    refine (EqualB_any _ _ _ _ _ _ _ _ _ _ _ HA.out.bits HO.out.bits).mono ?_
    intro e w'' h
    have hb2 := HBB.out.trans (h.below.mono HBB.out.size)
    obtain ⟨rfl, -⟩ := h
    rw [HB.out]
    clear hc1 hc2
    go_wp2_with fail
    go_ret
    exact says_bool HN.out.symm hb2
  exact hx _ true rfl
end Go.Proofs.Ytenfcpdoingdeaa.AskW
