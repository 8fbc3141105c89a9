/- Which kind a reply is of. -/
import Derived.Test.YtamdpinfbadflaaReplyRw
import Derived.Deep.RegionWith
import Derived.Outline
open Go.RowKit
namespace Go.Proofs.Ytamdpinfbadflaa.ReplyW
open AskM ReplyM AskW Mem

/-- A kind as a value. -/
def kindV : Kind → Value
  | .exc => .iface 112 (.agg #[])
  | .bitsR => .iface 113 (.agg #[])
  | .wordsR => .iface 114 (.agg #[])
  | .bitW => .iface 115 (.agg #[])
  | .wordW => .iface 116 (.agg #[])
  | .listW m => .iface 118 (.agg #[.int .u16 (m : Int)])
def kindRes : Option Kind → Value
  | none => .tuple #[.nilIface, .bool false]
  | some k => .tuple #[kindV k, .bool true]
theorem kindOf_any (c : UInt8) (w : World) : Calls Try.prog 39 #[b8 c] w fun e w' => e = .returned (kindRes (kindOfN c.toNat)) ∧ w = w' := by
  have hc := c.toNat_lt
  show Calls Try.prog 39 #[.int .u8 (c.toNat : Int)] w _
  generalize c.toNat = z at *
  by_cases h128 : 128 ≤ z
  · have t1 : decide ((128 : Int) ≤ (z : Int)) = true := by simp; omega
    have HK := Lib.hid (kindOf_exc h128)
    clear h128
    go_enter Try.func39, Try.ntmps39
    go_wp2_with fail
    go_ret2
    exact ⟨by rw [HK.out]; rfl, rfl⟩
  by_cases h1 : z = 1
  · subst h1
    clear hc h128
    go_enter Try.func39, Try.ntmps39
    go_wp2_with fail
    go_ret2
    exact ⟨rfl, rfl⟩
  by_cases h2 : z = 2
  · subst h2
    clear hc h128
    go_enter Try.func39, Try.ntmps39
    go_wp2_with fail
    go_ret2
    exact ⟨rfl, rfl⟩
  by_cases h3 : z = 3
  · subst h3
    clear hc h128
    go_enter Try.func39, Try.ntmps39
    go_wp2_with fail
    go_ret2
    exact ⟨rfl, rfl⟩
  by_cases h4 : z = 4
  · subst h4
    clear hc h128
    go_enter Try.func39, Try.ntmps39
    go_wp2_with fail
    go_ret2
    exact ⟨rfl, rfl⟩
  by_cases h23 : z = 23
  · subst h23
    clear hc h128
    go_enter Try.func39, Try.ntmps39
    go_wp2_with fail
    go_ret2
    exact ⟨rfl, rfl⟩
  by_cases h5 : z = 5
  · subst h5
    clear hc h128
    go_enter Try.func39, Try.ntmps39
    go_wp2_with fail
    go_ret2
    exact ⟨rfl, rfl⟩
  by_cases h6 : z = 6
  · subst h6
    clear hc h128
    go_enter Try.func39, Try.ntmps39
    go_wp2_with fail
    go_ret2
    exact ⟨rfl, rfl⟩
  by_cases h15 : z = 15
  · subst h15
    clear hc h128
    go_enter Try.func39, Try.ntmps39
    go_wp2_with fail
    go_ret2
    exact ⟨rfl, rfl⟩
  by_cases h16 : z = 16
  · subst h16
    clear hc h128
    go_enter Try.func39, Try.ntmps39
    go_wp2_with fail
    go_ret2
    exact ⟨rfl, rfl⟩
  have t1 : decide ((128 : Int) ≤ (z : Int)) = false := by simp; omega
  have t11 : ((z : Int) == 1) = false := by simp; omega
  have t12 : ((z : Int) == 2) = false := by simp; omega
  have t13 : ((z : Int) == 3) = false := by simp; omega
  have t14 : ((z : Int) == 4) = false := by simp; omega
  have t33 : ((z : Int) == 23) = false := by simp; omega
  have t15 : ((z : Int) == 5) = false := by simp; omega
  have t16 : ((z : Int) == 6) = false := by simp; omega
  have t25 : ((z : Int) == 15) = false := by simp; omega
  have t26 : ((z : Int) == 16) = false := by simp; omega
  have HK : Hid (kindOfN z = none) := Lib.hid (by unfold kindOfN; simp [h128, h1, h2, h3, h4, h23, h5, h6, h15, h16])
  clear h128 h1 h2 h3 h4 h23 h5 h6 h15 h16
  go_enter Try.func39, Try.ntmps39
  go_wp2_with fail
  go_ret2
  exact ⟨by rw [HK.out]; rfl, rfl⟩
theorem kindFor_any (r : Rep) (aw : Option Addr) (cw : Nat) (ab : Option Addr) (cb : Nat) (w : World) : Calls Try.prog 56 #[repV r aw cw ab cb] w (Says (kindRes (kindForN r)) w) := by
  obtain ⟨f1, x1, b1, s1, a1, m1⟩ := r
  by_cases hx : 0 < x1.toNat
  · have t1 : decide ((0 : Int) < (x1.toNat : Int)) = true := by simp; omega
    have t2 : decide (0 < x1.toNat) = true := by simp; omega
    have HK : Hid (kindForN ⟨f1, x1, b1, s1, a1, m1⟩ = some .exc) := Lib.hid (by unfold kindForN; rw [if_pos hx])
    clear hx
    go_enter Try.func56, Try.ntmps56
    go_wp2_with fail
    go_ret2
    exact ⟨by rw [HK.out]; rfl, (Below.refl _ _).alloc (Nat.le_refl _) _⟩
  · have t1 : decide ((0 : Int) < (x1.toNat : Int)) = false := by simp; omega
    have t2 : decide (0 < x1.toNat) = false := by simp; omega
    have hk : kindForN ⟨f1, x1, b1, s1, a1, m1⟩ = kindOfN f1.toNat := by unfold kindForN; rw [if_neg hx]
    have hko := fun W => kindOf_any f1 W
    clear hx
    rw [hk]
    clear hk
    generalize kindOfN f1.toNat = ko at *
    have HKO := Lib.hid hko
    clear hko
    cases ko with
    | none =>
      unfold kindRes at HKO ⊢
      go_enter Try.func56, Try.ntmps56
      go_wp2_with fail
      refine (HKO.out _).mono ?_
      rintro e w1 ⟨rfl, rfl⟩
      go_wp2_with fail
      go_ret2
      exact ⟨rfl, (Below.refl _ _).alloc (Nat.le_refl _) _⟩
    | some k =>
      unfold kindRes at HKO ⊢
      generalize kindV k = kv at *
      go_enter Try.func56, Try.ntmps56
      go_wp2_with fail
      refine (HKO.out _).mono ?_
      rintro e w1 ⟨rfl, rfl⟩
      go_wp2_with fail
      go_ret2
      exact ⟨rfl, (Below.refl _ _).alloc (Nat.le_refl _) _⟩

theorem m_exc_right (w : World) : (method 230 112 (.agg #[]) "saucier/reply.right").run Try.prog w = .ok (94, .agg #[]) w := by kernel_rfl
theorem m_exc_write (w : World) : (method 230 112 (.agg #[]) "saucier/reply.write").run Try.prog w = .ok (95, .agg #[]) w := by kernel_rfl
theorem m_exc_read (w : World) : (method 230 112 (.agg #[]) "saucier/reply.read").run Try.prog w = .ok (93, .agg #[]) w := by kernel_rfl
theorem m_bitsR_right (w : World) : (method 230 113 (.agg #[]) "saucier/reply.right").run Try.prog w = .ok (97, .agg #[]) w := by kernel_rfl
theorem m_bitsR_write (w : World) : (method 230 113 (.agg #[]) "saucier/reply.write").run Try.prog w = .ok (98, .agg #[]) w := by kernel_rfl
theorem m_bitsR_read (w : World) : (method 230 113 (.agg #[]) "saucier/reply.read").run Try.prog w = .ok (96, .agg #[]) w := by kernel_rfl
theorem m_wordsR_right (w : World) : (method 230 114 (.agg #[]) "saucier/reply.right").run Try.prog w = .ok (102, .agg #[]) w := by kernel_rfl
theorem m_wordsR_write (w : World) : (method 230 114 (.agg #[]) "saucier/reply.write").run Try.prog w = .ok (103, .agg #[]) w := by kernel_rfl
theorem m_wordsR_read (w : World) : (method 230 114 (.agg #[]) "saucier/reply.read").run Try.prog w = .ok (101, .agg #[]) w := by kernel_rfl
theorem m_bitW_right (w : World) : (method 230 115 (.agg #[]) "saucier/reply.right").run Try.prog w = .ok (107, .agg #[]) w := by kernel_rfl
theorem m_bitW_write (w : World) : (method 230 115 (.agg #[]) "saucier/reply.write").run Try.prog w = .ok (108, .agg #[]) w := by kernel_rfl
theorem m_bitW_read (w : World) : (method 230 115 (.agg #[]) "saucier/reply.read").run Try.prog w = .ok (106, .agg #[]) w := by kernel_rfl
theorem m_wordW_right (w : World) : (method 230 116 (.agg #[]) "saucier/reply.right").run Try.prog w = .ok (111, .agg #[]) w := by kernel_rfl
theorem m_wordW_write (w : World) : (method 230 116 (.agg #[]) "saucier/reply.write").run Try.prog w = .ok (112, .agg #[]) w := by kernel_rfl
theorem m_wordW_read (w : World) : (method 230 116 (.agg #[]) "saucier/reply.read").run Try.prog w = .ok (110, .agg #[]) w := by kernel_rfl
theorem m_listW_right (M : Nat) (w : World) : (method 230 118 (.agg #[.int .u16 (M : Int)]) "saucier/reply.right").run Try.prog w = .ok (114, .agg #[.int .u16 (M : Int)]) w := by kernel_rfl
theorem m_listW_write (M : Nat) (w : World) : (method 230 118 (.agg #[.int .u16 (M : Int)]) "saucier/reply.write").run Try.prog w = .ok (115, .agg #[.int .u16 (M : Int)]) w := by kernel_rfl
theorem m_listW_read (M : Nat) (w : World) : (method 230 118 (.agg #[.int .u16 (M : Int)]) "saucier/reply.read").run Try.prog w = .ok (113, .agg #[.int .u16 (M : Int)]) w := by kernel_rfl
set_option maxRecDepth 100000 in
set_option maxHeartbeats 8000000 in
theorem RRight_any (r : Rep) (aw : Option Addr) (cw : Nat) (ab : Option Addr) (cb : Nat) (w : World) (hA : RepAt w w.heap.size r aw cw ab cb) :
    Calls Try.prog 33 #[repV r aw cw ab cb] w (Says (.bool (rrightN r)) w) := by
  have hbox := Box1.new w #[b8 r.fn, b8 r.ex, .slice ab r.bits.length cb, .slice aw r.words.length cw, b16 r.at_, b16 r.many] 36
  have hA1 := hA.below hbox.below
  have HB := Lib.hid hbox
  have HA := Lib.hid hA1
  have HKF := Lib.hid (kindFor_any r aw cw ab cb (w.alloc (.cells #[b8 r.fn, b8 r.ex, .slice ab r.bits.length cb, .slice aw r.words.length cw, b16 r.at_, b16 r.many] 36)))
  clear hA hA1 hbox
  obtain ⟨f1, x1, b1, s1, a1, m1⟩ := r
  cases hk : kindForN ⟨f1, x1, b1, s1, a1, m1⟩ with
  | none =>
    rw [hk] at HKF
    have HR : Hid (rrightN ⟨f1, x1, b1, s1, a1, m1⟩ = false) := Lib.hid (by unfold rrightN; rw [hk])
    rw [HR.out]
    unfold kindRes at HKF
    clear hk
    go_enter Try.func33, Try.ntmps33
    go_wp2_with fail
    refine HKF.out.mono ?_
    rintro e w1 ⟨rfl, hb⟩
    have HW1 := Lib.hid (HB.out.on hb).below
    clear hb HKF
    go_wp2_with fail
    go_ret
    exact ⟨rfl, HW1.out⟩
  | some k =>
    rw [hk] at HKF
    cases k with
    | exc =>
      unfold kindRes kindV at HKF
      have HR : Hid (rrightN ⟨f1, x1, b1, s1, a1, m1⟩ = rightK .exc ⟨f1, x1, b1, s1, a1, m1⟩) := Lib.hid (by unfold rrightN; rw [hk])
      have hm := m_exc_right
      rw [HR.out]
      clear hk
      go_enter Try.func33, Try.ntmps33
      go_wp2_with fail
      refine HKF.out.mono ?_
      rintro e w1 ⟨rfl, hb⟩
      have HB1 := Lib.hid (HB.out.on hb)
      have HA1 := Lib.hid (HA.out.below hb)
      have hc := HB1.out.c
      clear hb HKF
      go_wp2_with fail
      refine (exc_right ⟨f1, x1, b1, s1, a1, m1⟩ aw cw ab cb w1 HA1.out).mono ?_
      rintro e w2 ⟨rfl, hb⟩
      have HW2 := Lib.hid (HB1.out.below.trans (hb.mono HB1.out.below.size))
      clear hb hc hm
      generalize rightK .exc ⟨f1, x1, b1, s1, a1, m1⟩ = z at *
      go_wp2_with fail
      go_ret
      exact ⟨rfl, HW2.out⟩
    | bitsR =>
      unfold kindRes kindV at HKF
      have HR : Hid (rrightN ⟨f1, x1, b1, s1, a1, m1⟩ = rightK .bitsR ⟨f1, x1, b1, s1, a1, m1⟩) := Lib.hid (by unfold rrightN; rw [hk])
      have hm := m_bitsR_right
      rw [HR.out]
      clear hk
      go_enter Try.func33, Try.ntmps33
      go_wp2_with fail
      refine HKF.out.mono ?_
      rintro e w1 ⟨rfl, hb⟩
      have HB1 := Lib.hid (HB.out.on hb)
      have HA1 := Lib.hid (HA.out.below hb)
      have hc := HB1.out.c
      clear hb HKF
      go_wp2_with fail
      refine (bitsR_right ⟨f1, x1, b1, s1, a1, m1⟩ aw cw ab cb w1 HA1.out).mono ?_
      rintro e w2 ⟨rfl, hb⟩
      have HW2 := Lib.hid (HB1.out.below.trans (hb.mono HB1.out.below.size))
      clear hb hc hm
      generalize rightK .bitsR ⟨f1, x1, b1, s1, a1, m1⟩ = z at *
      go_wp2_with fail
      go_ret
      exact ⟨rfl, HW2.out⟩
    | wordsR =>
      unfold kindRes kindV at HKF
      have HR : Hid (rrightN ⟨f1, x1, b1, s1, a1, m1⟩ = rightK .wordsR ⟨f1, x1, b1, s1, a1, m1⟩) := Lib.hid (by unfold rrightN; rw [hk])
      have hm := m_wordsR_right
      rw [HR.out]
      clear hk
      go_enter Try.func33, Try.ntmps33
      go_wp2_with fail
      refine HKF.out.mono ?_
      rintro e w1 ⟨rfl, hb⟩
      have HB1 := Lib.hid (HB.out.on hb)
      have HA1 := Lib.hid (HA.out.below hb)
      have hc := HB1.out.c
      clear hb HKF
      go_wp2_with fail
      refine (wordsR_right ⟨f1, x1, b1, s1, a1, m1⟩ aw cw ab cb w1 HA1.out).mono ?_
      rintro e w2 ⟨rfl, hb⟩
      have HW2 := Lib.hid (HB1.out.below.trans (hb.mono HB1.out.below.size))
      clear hb hc hm
      generalize rightK .wordsR ⟨f1, x1, b1, s1, a1, m1⟩ = z at *
      go_wp2_with fail
      go_ret
      exact ⟨rfl, HW2.out⟩
    | bitW =>
      unfold kindRes kindV at HKF
      have HR : Hid (rrightN ⟨f1, x1, b1, s1, a1, m1⟩ = rightK .bitW ⟨f1, x1, b1, s1, a1, m1⟩) := Lib.hid (by unfold rrightN; rw [hk])
      have hm := m_bitW_right
      rw [HR.out]
      clear hk
      go_enter Try.func33, Try.ntmps33
      go_wp2_with fail
      refine HKF.out.mono ?_
      rintro e w1 ⟨rfl, hb⟩
      have HB1 := Lib.hid (HB.out.on hb)
      have HA1 := Lib.hid (HA.out.below hb)
      have hc := HB1.out.c
      clear hb HKF
      go_wp2_with fail
      refine (bitW_right ⟨f1, x1, b1, s1, a1, m1⟩ aw cw ab cb w1 HA1.out).mono ?_
      rintro e w2 ⟨rfl, hb⟩
      have HW2 := Lib.hid (HB1.out.below.trans (hb.mono HB1.out.below.size))
      clear hb hc hm
      generalize rightK .bitW ⟨f1, x1, b1, s1, a1, m1⟩ = z at *
      go_wp2_with fail
      go_ret
      exact ⟨rfl, HW2.out⟩
    | wordW =>
      unfold kindRes kindV at HKF
      have HR : Hid (rrightN ⟨f1, x1, b1, s1, a1, m1⟩ = rightK .wordW ⟨f1, x1, b1, s1, a1, m1⟩) := Lib.hid (by unfold rrightN; rw [hk])
      have hm := m_wordW_right
      rw [HR.out]
      clear hk
      go_enter Try.func33, Try.ntmps33
      go_wp2_with fail
      refine HKF.out.mono ?_
      rintro e w1 ⟨rfl, hb⟩
      have HB1 := Lib.hid (HB.out.on hb)
      have HA1 := Lib.hid (HA.out.below hb)
      have hc := HB1.out.c
      clear hb HKF
      go_wp2_with fail
      refine (wordW_right ⟨f1, x1, b1, s1, a1, m1⟩ aw cw ab cb w1 HA1.out).mono ?_
      rintro e w2 ⟨rfl, hb⟩
      have HW2 := Lib.hid (HB1.out.below.trans (hb.mono HB1.out.below.size))
      clear hb hc hm
      generalize rightK .wordW ⟨f1, x1, b1, s1, a1, m1⟩ = z at *
      go_wp2_with fail
      go_ret
      exact ⟨rfl, HW2.out⟩
    | listW M =>
      unfold kindRes kindV at HKF
      have HR : Hid (rrightN ⟨f1, x1, b1, s1, a1, m1⟩ = rightK (.listW M) ⟨f1, x1, b1, s1, a1, m1⟩) := Lib.hid (by unfold rrightN; rw [hk])
      have hm := m_listW_right M
      rw [HR.out]
      clear hk
      go_enter Try.func33, Try.ntmps33
      go_wp2_with fail
      refine HKF.out.mono ?_
      rintro e w1 ⟨rfl, hb⟩
      have HB1 := Lib.hid (HB.out.on hb)
      have HA1 := Lib.hid (HA.out.below hb)
      have hc := HB1.out.c
      clear hb HKF
      go_wp2_with fail
      refine (listW_right ⟨f1, x1, b1, s1, a1, m1⟩ M aw cw ab cb w1 HA1.out).mono ?_
      rintro e w2 ⟨rfl, hb⟩
      have HW2 := Lib.hid (HB1.out.below.trans (hb.mono HB1.out.below.size))
      clear hb hc hm
      generalize rightK (.listW M) ⟨f1, x1, b1, s1, a1, m1⟩ = z at *
      go_wp2_with fail
      go_ret
      exact ⟨rfl, HW2.out⟩
end Go.Proofs.Ytamdpinfbadflaa.ReplyW
