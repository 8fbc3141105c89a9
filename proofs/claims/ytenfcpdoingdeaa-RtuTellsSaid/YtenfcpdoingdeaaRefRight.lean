/- The document's own answer: which requests are right. -/
import Derived.Test.YtenfcpdoingdeaaAskKit
open Go.RowKit
namespace Go.Proofs.Ytenfcpdoingdeaa.RefW
open AskM AskW Mem

theorem right_row' {f : UInt8} {F : Row} (hr : rowN f.toNat = some F) (a m t : UInt16) (ws : List UInt16) (bs : List Bool) : rightN ⟨f, a, m, t, ws, bs⟩ = fitN F ⟨f, a, m, t, ws, bs⟩ := by
  unfold rightN
  simp only [hr]
theorem zero16 {t : UInt16} : t = 0 ↔ t.toNat = 0 := ⟨fun h => by rw [h]; rfl, fun h => UInt16.toNat_inj.1 h⟩
section
variable {f : UInt8} {a m t : UInt16} {ws : List UInt16} {bs : List Bool}
theorem len0 {α : Type} {l : List α} : l = [] ↔ l.length = 0 := ⟨fun h => by rw [h]; rfl, List.eq_nil_of_length_eq_zero⟩

theorem fit_1 : fitN ⟨2000, 0, 0, false⟩ ⟨f, a, m, t, ws, bs⟩ = decide (t.toNat = 0 ∧ bs.length = 0 ∧ ws.length = 0 ∧ 1 ≤ m.toNat ∧ m.toNat ≤ 2000) := by
  rw [Bool.eq_iff_iff]
  simp only [fitN, within, listed, Bool.and_eq_true, Bool.or_eq_true, decide_eq_true_eq, Bool.not_eq_true', zero16]
  generalize bs.length = p
  generalize ws.length = q
  simp
  omega
theorem fit_3 : fitN ⟨125, 0, 0, false⟩ ⟨f, a, m, t, ws, bs⟩ = decide (t.toNat = 0 ∧ bs.length = 0 ∧ ws.length = 0 ∧ 1 ≤ m.toNat ∧ m.toNat ≤ 125) := by
  rw [Bool.eq_iff_iff]
  simp only [fitN, within, listed, Bool.and_eq_true, Bool.or_eq_true, decide_eq_true_eq, Bool.not_eq_true', zero16]
  generalize bs.length = p
  generalize ws.length = q
  simp
  omega
theorem fit_5 : fitN ⟨0, 1, 0, false⟩ ⟨f, a, m, t, ws, bs⟩ = decide (t.toNat = 0 ∧ bs.length = 1 ∧ ws.length = 0 ∧ m.toNat = 0) := by
  rw [Bool.eq_iff_iff]
  simp only [fitN, within, listed, Bool.and_eq_true, Bool.or_eq_true, decide_eq_true_eq, Bool.not_eq_true', zero16]
  generalize bs.length = p
  generalize ws.length = q
  simp
  omega
theorem fit_6 : fitN ⟨0, 0, 1, false⟩ ⟨f, a, m, t, ws, bs⟩ = decide (t.toNat = 0 ∧ bs.length = 0 ∧ ws.length = 1 ∧ m.toNat = 0) := by
  rw [Bool.eq_iff_iff]
  simp only [fitN, within, listed, Bool.and_eq_true, Bool.or_eq_true, decide_eq_true_eq, Bool.not_eq_true', zero16]
  generalize bs.length = p
  generalize ws.length = q
  simp
  omega
theorem fit_15 : fitN ⟨1968, 1968, 0, false⟩ ⟨f, a, m, t, ws, bs⟩ = decide (t.toNat = 0 ∧ bs.length = m.toNat ∧ ws.length = 0 ∧ 1 ≤ m.toNat ∧ m.toNat ≤ 1968) := by
  rw [Bool.eq_iff_iff]
  simp only [fitN, within, listed, Bool.and_eq_true, Bool.or_eq_true, decide_eq_true_eq, Bool.not_eq_true', zero16]
  generalize bs.length = p
  generalize ws.length = q
  simp
  omega
theorem fit_16 : fitN ⟨123, 0, 123, false⟩ ⟨f, a, m, t, ws, bs⟩ = decide (t.toNat = 0 ∧ bs.length = 0 ∧ ws.length = m.toNat ∧ 1 ≤ m.toNat ∧ m.toNat ≤ 123) := by
  rw [Bool.eq_iff_iff]
  simp only [fitN, within, listed, Bool.and_eq_true, Bool.or_eq_true, decide_eq_true_eq, Bool.not_eq_true', zero16]
  generalize bs.length = p
  generalize ws.length = q
  simp
  omega
theorem fit_23 : fitN ⟨125, 0, 121, true⟩ ⟨f, a, m, t, ws, bs⟩ = decide (bs.length = 0 ∧ 1 ≤ ws.length ∧ ws.length ≤ 121 ∧ 1 ≤ m.toNat ∧ m.toNat ≤ 125) := by
  rw [Bool.eq_iff_iff]
  simp only [fitN, within, listed, Bool.and_eq_true, Bool.or_eq_true, decide_eq_true_eq, Bool.not_eq_true', zero16]
  generalize bs.length = p
  generalize ws.length = q
  simp
  omega
end

set_option maxRecDepth 100000 in
set_option maxHeartbeats 8000000 in
theorem rRight_any (a : Req) (aw : Option Addr) (cw : Nat) (ab : Option Addr) (cb : Nat) (w : World) (hnw : a.words.length ≤ 1000000) (hnb : a.bits.length ≤ 1000000) :
    Calls Try.prog 11 #[askV a aw cw ab cb] w (Says (.bool (rightN a)) w) := by
  obtain ⟨f1, a1, m1, t1, ws, bs⟩ := a
  simp only at hnw hnb
  have hf8 := f1.toNat_lt
  have hm16 := m1.toNat_lt
  have ht16 := t1.toNat_lt
  by_cases g1 : f1.toNat = 1
  · have HR : Hid (rightN ⟨f1, a1, m1, t1, ws, bs⟩ = decide (t1.toNat = 0 ∧ bs.length = 0 ∧ ws.length = 0 ∧ 1 ≤ m1.toNat ∧ m1.toNat ≤ 2000)) := Lib.hid ((right_row' (F := ⟨2000, 0, 0, false⟩) (by rw [g1]; rfl) a1 m1 t1 ws bs).trans fit_1)
    have k1 : ((f1.toNat : Int) == 1) = true := by simp; omega
    have j23 : ((f1.toNat : Int) != 23) = true := by simp; omega
    rw [HR.out]
    show Calls Try.prog 11 #[.agg #[b8 f1, b16 a1, b16 m1, .int .u16 (t1.toNat : Int), .slice aw ws.length cw, .slice ab bs.length cb]] w _
    clear HR g1
    generalize ws.length = p at *
    generalize bs.length = q at *
    generalize t1.toNat = tt at *
    obtain ⟨z, hz⟩ : ∃ z, decide (tt = 0 ∧ q = 0 ∧ p = 0 ∧ 1 ≤ m1.toNat ∧ m1.toNat ≤ 2000) = z := ⟨_, rfl⟩
    rw [hz]
    have HZ := Lib.hid hz
    clear hz
    by_cases tz : tt = 0
    · have jt : ((tt : Int) != 0) = false := by simp; omega
      have HTz := Lib.hid tz
      clear tz
      have hb := (Below.refl w.heap.size w).alloc (Nat.le_refl _) (.cells #[b8 f1, b16 a1, b16 m1, .int .u16 (tt : Int), .slice aw p cw, .slice ab q cb] 26)
      have C1 := World.cell?_alloc_new w #[b8 f1, b16 a1, b16 m1, .int .u16 (tt : Int), .slice aw p cw, .slice ab q cb] 26
      go_enter Try.func11, Try.ntmps11
      go_wp2_with fail
      generalize w.alloc (.cells #[b8 f1, b16 a1, b16 m1, .int .u16 (tt : Int), .slice aw p cw, .slice ab q cb] 26) = W at *
      go_quiet (fail)
      go_wp2_with fail
      all_goals go_ret
      all_goals refine ⟨ret_bool ?_, below_drawn hb _⟩
      all_goals rw [← HZ.out, Bool.eq_iff_iff]
      all_goals simp
      all_goals first | omega | (have h0 := HTz.out; omega)
    · have jt : ((tt : Int) != 0) = true := by simp; omega
      have HTz := Lib.hid tz
      clear tz
      have hb := (Below.refl w.heap.size w).alloc (Nat.le_refl _) (.cells #[b8 f1, b16 a1, b16 m1, .int .u16 (tt : Int), .slice aw p cw, .slice ab q cb] 26)
      have C1 := World.cell?_alloc_new w #[b8 f1, b16 a1, b16 m1, .int .u16 (tt : Int), .slice aw p cw, .slice ab q cb] 26
      go_enter Try.func11, Try.ntmps11
      go_wp2_with fail
      generalize w.alloc (.cells #[b8 f1, b16 a1, b16 m1, .int .u16 (tt : Int), .slice aw p cw, .slice ab q cb] 26) = W at *
      go_quiet (fail)
      go_wp2_with fail
      all_goals go_ret
      all_goals refine ⟨ret_bool ?_, below_drawn hb _⟩
      all_goals rw [← HZ.out, Bool.eq_iff_iff]
      all_goals simp
      all_goals first | omega | (have h0 := HTz.out; omega)
  by_cases g2 : f1.toNat = 2
  · have HR : Hid (rightN ⟨f1, a1, m1, t1, ws, bs⟩ = decide (t1.toNat = 0 ∧ bs.length = 0 ∧ ws.length = 0 ∧ 1 ≤ m1.toNat ∧ m1.toNat ≤ 2000)) := Lib.hid ((right_row' (F := ⟨2000, 0, 0, false⟩) (by rw [g2]; rfl) a1 m1 t1 ws bs).trans fit_1)
    have k1 : ((f1.toNat : Int) == 1) = false := by simp; omega
    have k2 : ((f1.toNat : Int) == 2) = true := by simp; omega
    have j23 : ((f1.toNat : Int) != 23) = true := by simp; omega
    rw [HR.out]
    show Calls Try.prog 11 #[.agg #[b8 f1, b16 a1, b16 m1, .int .u16 (t1.toNat : Int), .slice aw ws.length cw, .slice ab bs.length cb]] w _
    clear HR g1 g2
    generalize ws.length = p at *
    generalize bs.length = q at *
    generalize t1.toNat = tt at *
    obtain ⟨z, hz⟩ : ∃ z, decide (tt = 0 ∧ q = 0 ∧ p = 0 ∧ 1 ≤ m1.toNat ∧ m1.toNat ≤ 2000) = z := ⟨_, rfl⟩
    rw [hz]
    have HZ := Lib.hid hz
    clear hz
    by_cases tz : tt = 0
    · have jt : ((tt : Int) != 0) = false := by simp; omega
      have HTz := Lib.hid tz
      clear tz
      have hb := (Below.refl w.heap.size w).alloc (Nat.le_refl _) (.cells #[b8 f1, b16 a1, b16 m1, .int .u16 (tt : Int), .slice aw p cw, .slice ab q cb] 26)
      have C1 := World.cell?_alloc_new w #[b8 f1, b16 a1, b16 m1, .int .u16 (tt : Int), .slice aw p cw, .slice ab q cb] 26
      go_enter Try.func11, Try.ntmps11
      go_wp2_with fail
      generalize w.alloc (.cells #[b8 f1, b16 a1, b16 m1, .int .u16 (tt : Int), .slice aw p cw, .slice ab q cb] 26) = W at *
      go_quiet (fail)
      go_wp2_with fail
      all_goals go_ret
      all_goals refine ⟨ret_bool ?_, below_drawn hb _⟩
      all_goals rw [← HZ.out, Bool.eq_iff_iff]
      all_goals simp
      all_goals first | omega | (have h0 := HTz.out; omega)
    · have jt : ((tt : Int) != 0) = true := by simp; omega
      have HTz := Lib.hid tz
      clear tz
      have hb := (Below.refl w.heap.size w).alloc (Nat.le_refl _) (.cells #[b8 f1, b16 a1, b16 m1, .int .u16 (tt : Int), .slice aw p cw, .slice ab q cb] 26)
      have C1 := World.cell?_alloc_new w #[b8 f1, b16 a1, b16 m1, .int .u16 (tt : Int), .slice aw p cw, .slice ab q cb] 26
      go_enter Try.func11, Try.ntmps11
      go_wp2_with fail
      generalize w.alloc (.cells #[b8 f1, b16 a1, b16 m1, .int .u16 (tt : Int), .slice aw p cw, .slice ab q cb] 26) = W at *
      go_quiet (fail)
      go_wp2_with fail
      all_goals go_ret
      all_goals refine ⟨ret_bool ?_, below_drawn hb _⟩
      all_goals rw [← HZ.out, Bool.eq_iff_iff]
      all_goals simp
      all_goals first | omega | (have h0 := HTz.out; omega)
  by_cases g3 : f1.toNat = 3
  · have HR : Hid (rightN ⟨f1, a1, m1, t1, ws, bs⟩ = decide (t1.toNat = 0 ∧ bs.length = 0 ∧ ws.length = 0 ∧ 1 ≤ m1.toNat ∧ m1.toNat ≤ 125)) := Lib.hid ((right_row' (F := ⟨125, 0, 0, false⟩) (by rw [g3]; rfl) a1 m1 t1 ws bs).trans fit_3)
    have k1 : ((f1.toNat : Int) == 1) = false := by simp; omega
    have k2 : ((f1.toNat : Int) == 2) = false := by simp; omega
    have k3 : ((f1.toNat : Int) == 3) = true := by simp; omega
    have j23 : ((f1.toNat : Int) != 23) = true := by simp; omega
    rw [HR.out]
    show Calls Try.prog 11 #[.agg #[b8 f1, b16 a1, b16 m1, .int .u16 (t1.toNat : Int), .slice aw ws.length cw, .slice ab bs.length cb]] w _
    clear HR g1 g2 g3
    generalize ws.length = p at *
    generalize bs.length = q at *
    generalize t1.toNat = tt at *
    obtain ⟨z, hz⟩ : ∃ z, decide (tt = 0 ∧ q = 0 ∧ p = 0 ∧ 1 ≤ m1.toNat ∧ m1.toNat ≤ 125) = z := ⟨_, rfl⟩
    rw [hz]
    have HZ := Lib.hid hz
    clear hz
    by_cases tz : tt = 0
    · have jt : ((tt : Int) != 0) = false := by simp; omega
      have HTz := Lib.hid tz
      clear tz
      have hb := (Below.refl w.heap.size w).alloc (Nat.le_refl _) (.cells #[b8 f1, b16 a1, b16 m1, .int .u16 (tt : Int), .slice aw p cw, .slice ab q cb] 26)
      have C1 := World.cell?_alloc_new w #[b8 f1, b16 a1, b16 m1, .int .u16 (tt : Int), .slice aw p cw, .slice ab q cb] 26
      go_enter Try.func11, Try.ntmps11
      go_wp2_with fail
      generalize w.alloc (.cells #[b8 f1, b16 a1, b16 m1, .int .u16 (tt : Int), .slice aw p cw, .slice ab q cb] 26) = W at *
      go_quiet (fail)
      go_wp2_with fail
      all_goals go_ret
      all_goals refine ⟨ret_bool ?_, below_drawn hb _⟩
      all_goals rw [← HZ.out, Bool.eq_iff_iff]
      all_goals simp
      all_goals first | omega | (have h0 := HTz.out; omega)
    · have jt : ((tt : Int) != 0) = true := by simp; omega
      have HTz := Lib.hid tz
      clear tz
      have hb := (Below.refl w.heap.size w).alloc (Nat.le_refl _) (.cells #[b8 f1, b16 a1, b16 m1, .int .u16 (tt : Int), .slice aw p cw, .slice ab q cb] 26)
      have C1 := World.cell?_alloc_new w #[b8 f1, b16 a1, b16 m1, .int .u16 (tt : Int), .slice aw p cw, .slice ab q cb] 26
      go_enter Try.func11, Try.ntmps11
      go_wp2_with fail
      generalize w.alloc (.cells #[b8 f1, b16 a1, b16 m1, .int .u16 (tt : Int), .slice aw p cw, .slice ab q cb] 26) = W at *
      go_quiet (fail)
      go_wp2_with fail
      all_goals go_ret
      all_goals refine ⟨ret_bool ?_, below_drawn hb _⟩
      all_goals rw [← HZ.out, Bool.eq_iff_iff]
      all_goals simp
      all_goals first | omega | (have h0 := HTz.out; omega)
  by_cases g4 : f1.toNat = 4
  · have HR : Hid (rightN ⟨f1, a1, m1, t1, ws, bs⟩ = decide (t1.toNat = 0 ∧ bs.length = 0 ∧ ws.length = 0 ∧ 1 ≤ m1.toNat ∧ m1.toNat ≤ 125)) := Lib.hid ((right_row' (F := ⟨125, 0, 0, false⟩) (by rw [g4]; rfl) a1 m1 t1 ws bs).trans fit_3)
    have k1 : ((f1.toNat : Int) == 1) = false := by simp; omega
    have k2 : ((f1.toNat : Int) == 2) = false := by simp; omega
    have k3 : ((f1.toNat : Int) == 3) = false := by simp; omega
    have k4 : ((f1.toNat : Int) == 4) = true := by simp; omega
    have j23 : ((f1.toNat : Int) != 23) = true := by simp; omega
    rw [HR.out]
    show Calls Try.prog 11 #[.agg #[b8 f1, b16 a1, b16 m1, .int .u16 (t1.toNat : Int), .slice aw ws.length cw, .slice ab bs.length cb]] w _
    clear HR g1 g2 g3 g4
    generalize ws.length = p at *
    generalize bs.length = q at *
    generalize t1.toNat = tt at *
    obtain ⟨z, hz⟩ : ∃ z, decide (tt = 0 ∧ q = 0 ∧ p = 0 ∧ 1 ≤ m1.toNat ∧ m1.toNat ≤ 125) = z := ⟨_, rfl⟩
    rw [hz]
    have HZ := Lib.hid hz
    clear hz
    by_cases tz : tt = 0
    · have jt : ((tt : Int) != 0) = false := by simp; omega
      have HTz := Lib.hid tz
      clear tz
      have hb := (Below.refl w.heap.size w).alloc (Nat.le_refl _) (.cells #[b8 f1, b16 a1, b16 m1, .int .u16 (tt : Int), .slice aw p cw, .slice ab q cb] 26)
      have C1 := World.cell?_alloc_new w #[b8 f1, b16 a1, b16 m1, .int .u16 (tt : Int), .slice aw p cw, .slice ab q cb] 26
      go_enter Try.func11, Try.ntmps11
      go_wp2_with fail
      generalize w.alloc (.cells #[b8 f1, b16 a1, b16 m1, .int .u16 (tt : Int), .slice aw p cw, .slice ab q cb] 26) = W at *
      go_quiet (fail)
      go_wp2_with fail
      all_goals go_ret
      all_goals refine ⟨ret_bool ?_, below_drawn hb _⟩
      all_goals rw [← HZ.out, Bool.eq_iff_iff]
      all_goals simp
      all_goals first | omega | (have h0 := HTz.out; omega)
    · have jt : ((tt : Int) != 0) = true := by simp; omega
      have HTz := Lib.hid tz
      clear tz
      have hb := (Below.refl w.heap.size w).alloc (Nat.le_refl _) (.cells #[b8 f1, b16 a1, b16 m1, .int .u16 (tt : Int), .slice aw p cw, .slice ab q cb] 26)
      have C1 := World.cell?_alloc_new w #[b8 f1, b16 a1, b16 m1, .int .u16 (tt : Int), .slice aw p cw, .slice ab q cb] 26
      go_enter Try.func11, Try.ntmps11
      go_wp2_with fail
      generalize w.alloc (.cells #[b8 f1, b16 a1, b16 m1, .int .u16 (tt : Int), .slice aw p cw, .slice ab q cb] 26) = W at *
      go_quiet (fail)
      go_wp2_with fail
      all_goals go_ret
      all_goals refine ⟨ret_bool ?_, below_drawn hb _⟩
      all_goals rw [← HZ.out, Bool.eq_iff_iff]
      all_goals simp
      all_goals first | omega | (have h0 := HTz.out; omega)
  by_cases g5 : f1.toNat = 5
  · have HR : Hid (rightN ⟨f1, a1, m1, t1, ws, bs⟩ = decide (t1.toNat = 0 ∧ bs.length = 1 ∧ ws.length = 0 ∧ m1.toNat = 0)) := Lib.hid ((right_row' (F := ⟨0, 1, 0, false⟩) (by rw [g5]; rfl) a1 m1 t1 ws bs).trans fit_5)
    have k1 : ((f1.toNat : Int) == 1) = false := by simp; omega
    have k2 : ((f1.toNat : Int) == 2) = false := by simp; omega
    have k3 : ((f1.toNat : Int) == 3) = false := by simp; omega
    have k4 : ((f1.toNat : Int) == 4) = false := by simp; omega
    have k5 : ((f1.toNat : Int) == 5) = true := by simp; omega
    have j23 : ((f1.toNat : Int) != 23) = true := by simp; omega
    rw [HR.out]
    show Calls Try.prog 11 #[.agg #[b8 f1, b16 a1, b16 m1, .int .u16 (t1.toNat : Int), .slice aw ws.length cw, .slice ab bs.length cb]] w _
    clear HR g1 g2 g3 g4 g5
    generalize ws.length = p at *
    generalize bs.length = q at *
    generalize t1.toNat = tt at *
    obtain ⟨z, hz⟩ : ∃ z, decide (tt = 0 ∧ q = 1 ∧ p = 0 ∧ m1.toNat = 0) = z := ⟨_, rfl⟩
    rw [hz]
    have HZ := Lib.hid hz
    clear hz
    by_cases tz : tt = 0
    · have jt : ((tt : Int) != 0) = false := by simp; omega
      have HTz := Lib.hid tz
      clear tz
      have hb := (Below.refl w.heap.size w).alloc (Nat.le_refl _) (.cells #[b8 f1, b16 a1, b16 m1, .int .u16 (tt : Int), .slice aw p cw, .slice ab q cb] 26)
      have C1 := World.cell?_alloc_new w #[b8 f1, b16 a1, b16 m1, .int .u16 (tt : Int), .slice aw p cw, .slice ab q cb] 26
      go_enter Try.func11, Try.ntmps11
      go_wp2_with fail
      generalize w.alloc (.cells #[b8 f1, b16 a1, b16 m1, .int .u16 (tt : Int), .slice aw p cw, .slice ab q cb] 26) = W at *
      go_quiet (fail)
      go_wp2_with fail
      all_goals go_ret
      all_goals refine ⟨ret_bool ?_, below_drawn hb _⟩
      all_goals rw [← HZ.out, Bool.eq_iff_iff]
      all_goals simp
      all_goals first | omega | (have h0 := HTz.out; omega)
    · have jt : ((tt : Int) != 0) = true := by simp; omega
      have HTz := Lib.hid tz
      clear tz
      have hb := (Below.refl w.heap.size w).alloc (Nat.le_refl _) (.cells #[b8 f1, b16 a1, b16 m1, .int .u16 (tt : Int), .slice aw p cw, .slice ab q cb] 26)
      have C1 := World.cell?_alloc_new w #[b8 f1, b16 a1, b16 m1, .int .u16 (tt : Int), .slice aw p cw, .slice ab q cb] 26
      go_enter Try.func11, Try.ntmps11
      go_wp2_with fail
      generalize w.alloc (.cells #[b8 f1, b16 a1, b16 m1, .int .u16 (tt : Int), .slice aw p cw, .slice ab q cb] 26) = W at *
      go_quiet (fail)
      go_wp2_with fail
      all_goals go_ret
      all_goals refine ⟨ret_bool ?_, below_drawn hb _⟩
      all_goals rw [← HZ.out, Bool.eq_iff_iff]
      all_goals simp
      all_goals first | omega | (have h0 := HTz.out; omega)
  by_cases g6 : f1.toNat = 6
  · have HR : Hid (rightN ⟨f1, a1, m1, t1, ws, bs⟩ = decide (t1.toNat = 0 ∧ bs.length = 0 ∧ ws.length = 1 ∧ m1.toNat = 0)) := Lib.hid ((right_row' (F := ⟨0, 0, 1, false⟩) (by rw [g6]; rfl) a1 m1 t1 ws bs).trans fit_6)
    have k1 : ((f1.toNat : Int) == 1) = false := by simp; omega
    have k2 : ((f1.toNat : Int) == 2) = false := by simp; omega
    have k3 : ((f1.toNat : Int) == 3) = false := by simp; omega
    have k4 : ((f1.toNat : Int) == 4) = false := by simp; omega
    have k5 : ((f1.toNat : Int) == 5) = false := by simp; omega
    have k6 : ((f1.toNat : Int) == 6) = true := by simp; omega
    have j23 : ((f1.toNat : Int) != 23) = true := by simp; omega
    rw [HR.out]
    show Calls Try.prog 11 #[.agg #[b8 f1, b16 a1, b16 m1, .int .u16 (t1.toNat : Int), .slice aw ws.length cw, .slice ab bs.length cb]] w _
    clear HR g1 g2 g3 g4 g5 g6
    generalize ws.length = p at *
    generalize bs.length = q at *
    generalize t1.toNat = tt at *
    obtain ⟨z, hz⟩ : ∃ z, decide (tt = 0 ∧ q = 0 ∧ p = 1 ∧ m1.toNat = 0) = z := ⟨_, rfl⟩
    rw [hz]
    have HZ := Lib.hid hz
    clear hz
    by_cases tz : tt = 0
    · have jt : ((tt : Int) != 0) = false := by simp; omega
      have HTz := Lib.hid tz
      clear tz
      have hb := (Below.refl w.heap.size w).alloc (Nat.le_refl _) (.cells #[b8 f1, b16 a1, b16 m1, .int .u16 (tt : Int), .slice aw p cw, .slice ab q cb] 26)
      have C1 := World.cell?_alloc_new w #[b8 f1, b16 a1, b16 m1, .int .u16 (tt : Int), .slice aw p cw, .slice ab q cb] 26
      go_enter Try.func11, Try.ntmps11
      go_wp2_with fail
      generalize w.alloc (.cells #[b8 f1, b16 a1, b16 m1, .int .u16 (tt : Int), .slice aw p cw, .slice ab q cb] 26) = W at *
      go_quiet (fail)
      go_wp2_with fail
      all_goals go_ret
      all_goals refine ⟨ret_bool ?_, below_drawn hb _⟩
      all_goals rw [← HZ.out, Bool.eq_iff_iff]
      all_goals simp
      all_goals first | omega | (have h0 := HTz.out; omega)
    · have jt : ((tt : Int) != 0) = true := by simp; omega
      have HTz := Lib.hid tz
      clear tz
      have hb := (Below.refl w.heap.size w).alloc (Nat.le_refl _) (.cells #[b8 f1, b16 a1, b16 m1, .int .u16 (tt : Int), .slice aw p cw, .slice ab q cb] 26)
      have C1 := World.cell?_alloc_new w #[b8 f1, b16 a1, b16 m1, .int .u16 (tt : Int), .slice aw p cw, .slice ab q cb] 26
      go_enter Try.func11, Try.ntmps11
      go_wp2_with fail
      generalize w.alloc (.cells #[b8 f1, b16 a1, b16 m1, .int .u16 (tt : Int), .slice aw p cw, .slice ab q cb] 26) = W at *
      go_quiet (fail)
      go_wp2_with fail
      all_goals go_ret
      all_goals refine ⟨ret_bool ?_, below_drawn hb _⟩
      all_goals rw [← HZ.out, Bool.eq_iff_iff]
      all_goals simp
      all_goals first | omega | (have h0 := HTz.out; omega)
  by_cases g15 : f1.toNat = 15
  · have HR : Hid (rightN ⟨f1, a1, m1, t1, ws, bs⟩ = decide (t1.toNat = 0 ∧ bs.length = m1.toNat ∧ ws.length = 0 ∧ 1 ≤ m1.toNat ∧ m1.toNat ≤ 1968)) := Lib.hid ((right_row' (F := ⟨1968, 1968, 0, false⟩) (by rw [g15]; rfl) a1 m1 t1 ws bs).trans fit_15)
    have k1 : ((f1.toNat : Int) == 1) = false := by simp; omega
    have k2 : ((f1.toNat : Int) == 2) = false := by simp; omega
    have k3 : ((f1.toNat : Int) == 3) = false := by simp; omega
    have k4 : ((f1.toNat : Int) == 4) = false := by simp; omega
    have k5 : ((f1.toNat : Int) == 5) = false := by simp; omega
    have k6 : ((f1.toNat : Int) == 6) = false := by simp; omega
    have k15 : ((f1.toNat : Int) == 15) = true := by simp; omega
    have j23 : ((f1.toNat : Int) != 23) = true := by simp; omega
    rw [HR.out]
    show Calls Try.prog 11 #[.agg #[b8 f1, b16 a1, b16 m1, .int .u16 (t1.toNat : Int), .slice aw ws.length cw, .slice ab bs.length cb]] w _
    clear HR g1 g2 g3 g4 g5 g6 g15
    generalize ws.length = p at *
    generalize bs.length = q at *
    generalize t1.toNat = tt at *
    obtain ⟨z, hz⟩ : ∃ z, decide (tt = 0 ∧ q = m1.toNat ∧ p = 0 ∧ 1 ≤ m1.toNat ∧ m1.toNat ≤ 1968) = z := ⟨_, rfl⟩
    rw [hz]
    have HZ := Lib.hid hz
    clear hz
    by_cases tz : tt = 0
    · have jt : ((tt : Int) != 0) = false := by simp; omega
      have HTz := Lib.hid tz
      clear tz
      have hb := (Below.refl w.heap.size w).alloc (Nat.le_refl _) (.cells #[b8 f1, b16 a1, b16 m1, .int .u16 (tt : Int), .slice aw p cw, .slice ab q cb] 26)
      have C1 := World.cell?_alloc_new w #[b8 f1, b16 a1, b16 m1, .int .u16 (tt : Int), .slice aw p cw, .slice ab q cb] 26
      go_enter Try.func11, Try.ntmps11
      go_wp2_with fail
      generalize w.alloc (.cells #[b8 f1, b16 a1, b16 m1, .int .u16 (tt : Int), .slice aw p cw, .slice ab q cb] 26) = W at *
      go_quiet (fail)
      go_wp2_with fail
      all_goals go_ret
      all_goals refine ⟨ret_bool ?_, below_drawn hb _⟩
      all_goals rw [← HZ.out, Bool.eq_iff_iff]
      all_goals simp
      all_goals first | omega | (have h0 := HTz.out; omega)
    · have jt : ((tt : Int) != 0) = true := by simp; omega
      have HTz := Lib.hid tz
      clear tz
      have hb := (Below.refl w.heap.size w).alloc (Nat.le_refl _) (.cells #[b8 f1, b16 a1, b16 m1, .int .u16 (tt : Int), .slice aw p cw, .slice ab q cb] 26)
      have C1 := World.cell?_alloc_new w #[b8 f1, b16 a1, b16 m1, .int .u16 (tt : Int), .slice aw p cw, .slice ab q cb] 26
      go_enter Try.func11, Try.ntmps11
      go_wp2_with fail
      generalize w.alloc (.cells #[b8 f1, b16 a1, b16 m1, .int .u16 (tt : Int), .slice aw p cw, .slice ab q cb] 26) = W at *
      go_quiet (fail)
      go_wp2_with fail
      all_goals go_ret
      all_goals refine ⟨ret_bool ?_, below_drawn hb _⟩
      all_goals rw [← HZ.out, Bool.eq_iff_iff]
      all_goals simp
      all_goals first | omega | (have h0 := HTz.out; omega)
  by_cases g16 : f1.toNat = 16
  · have HR : Hid (rightN ⟨f1, a1, m1, t1, ws, bs⟩ = decide (t1.toNat = 0 ∧ bs.length = 0 ∧ ws.length = m1.toNat ∧ 1 ≤ m1.toNat ∧ m1.toNat ≤ 123)) := Lib.hid ((right_row' (F := ⟨123, 0, 123, false⟩) (by rw [g16]; rfl) a1 m1 t1 ws bs).trans fit_16)
    have k1 : ((f1.toNat : Int) == 1) = false := by simp; omega
    have k2 : ((f1.toNat : Int) == 2) = false := by simp; omega
    have k3 : ((f1.toNat : Int) == 3) = false := by simp; omega
    have k4 : ((f1.toNat : Int) == 4) = false := by simp; omega
    have k5 : ((f1.toNat : Int) == 5) = false := by simp; omega
    have k6 : ((f1.toNat : Int) == 6) = false := by simp; omega
    have k15 : ((f1.toNat : Int) == 15) = false := by simp; omega
    have k16 : ((f1.toNat : Int) == 16) = true := by simp; omega
    have j23 : ((f1.toNat : Int) != 23) = true := by simp; omega
    rw [HR.out]
    show Calls Try.prog 11 #[.agg #[b8 f1, b16 a1, b16 m1, .int .u16 (t1.toNat : Int), .slice aw ws.length cw, .slice ab bs.length cb]] w _
    clear HR g1 g2 g3 g4 g5 g6 g15 g16
    generalize ws.length = p at *
    generalize bs.length = q at *
    generalize t1.toNat = tt at *
    obtain ⟨z, hz⟩ : ∃ z, decide (tt = 0 ∧ q = 0 ∧ p = m1.toNat ∧ 1 ≤ m1.toNat ∧ m1.toNat ≤ 123) = z := ⟨_, rfl⟩
    rw [hz]
    have HZ := Lib.hid hz
    clear hz
    by_cases tz : tt = 0
    · have jt : ((tt : Int) != 0) = false := by simp; omega
      have HTz := Lib.hid tz
      clear tz
      have hb := (Below.refl w.heap.size w).alloc (Nat.le_refl _) (.cells #[b8 f1, b16 a1, b16 m1, .int .u16 (tt : Int), .slice aw p cw, .slice ab q cb] 26)
      have C1 := World.cell?_alloc_new w #[b8 f1, b16 a1, b16 m1, .int .u16 (tt : Int), .slice aw p cw, .slice ab q cb] 26
      go_enter Try.func11, Try.ntmps11
      go_wp2_with fail
      generalize w.alloc (.cells #[b8 f1, b16 a1, b16 m1, .int .u16 (tt : Int), .slice aw p cw, .slice ab q cb] 26) = W at *
      go_quiet (fail)
      go_wp2_with fail
      all_goals go_ret
      all_goals refine ⟨ret_bool ?_, below_drawn hb _⟩
      all_goals rw [← HZ.out, Bool.eq_iff_iff]
      all_goals simp
      all_goals first | omega | (have h0 := HTz.out; omega)
    · have jt : ((tt : Int) != 0) = true := by simp; omega
      have HTz := Lib.hid tz
      clear tz
      have hb := (Below.refl w.heap.size w).alloc (Nat.le_refl _) (.cells #[b8 f1, b16 a1, b16 m1, .int .u16 (tt : Int), .slice aw p cw, .slice ab q cb] 26)
      have C1 := World.cell?_alloc_new w #[b8 f1, b16 a1, b16 m1, .int .u16 (tt : Int), .slice aw p cw, .slice ab q cb] 26
      go_enter Try.func11, Try.ntmps11
      go_wp2_with fail
      generalize w.alloc (.cells #[b8 f1, b16 a1, b16 m1, .int .u16 (tt : Int), .slice aw p cw, .slice ab q cb] 26) = W at *
      go_quiet (fail)
      go_wp2_with fail
      all_goals go_ret
      all_goals refine ⟨ret_bool ?_, below_drawn hb _⟩
      all_goals rw [← HZ.out, Bool.eq_iff_iff]
      all_goals simp
      all_goals first | omega | (have h0 := HTz.out; omega)
  by_cases g23 : f1.toNat = 23
  · have HR : Hid (rightN ⟨f1, a1, m1, t1, ws, bs⟩ = decide (bs.length = 0 ∧ 1 ≤ ws.length ∧ ws.length ≤ 121 ∧ 1 ≤ m1.toNat ∧ m1.toNat ≤ 125)) := Lib.hid ((right_row' (F := ⟨125, 0, 121, true⟩) (by rw [g23]; rfl) a1 m1 t1 ws bs).trans fit_23)
    have k1 : ((f1.toNat : Int) == 1) = false := by simp; omega
    have k2 : ((f1.toNat : Int) == 2) = false := by simp; omega
    have k3 : ((f1.toNat : Int) == 3) = false := by simp; omega
    have k4 : ((f1.toNat : Int) == 4) = false := by simp; omega
    have k5 : ((f1.toNat : Int) == 5) = false := by simp; omega
    have k6 : ((f1.toNat : Int) == 6) = false := by simp; omega
    have k15 : ((f1.toNat : Int) == 15) = false := by simp; omega
    have k16 : ((f1.toNat : Int) == 16) = false := by simp; omega
    have k23 : ((f1.toNat : Int) == 23) = true := by simp; omega
    have j23 : ((f1.toNat : Int) != 23) = false := by simp; omega
    rw [HR.out]
    show Calls Try.prog 11 #[.agg #[b8 f1, b16 a1, b16 m1, .int .u16 (t1.toNat : Int), .slice aw ws.length cw, .slice ab bs.length cb]] w _
    clear HR g1 g2 g3 g4 g5 g6 g15 g16 g23
    generalize ws.length = p at *
    generalize bs.length = q at *
    generalize t1.toNat = tt at *
    obtain ⟨z, hz⟩ : ∃ z, decide (q = 0 ∧ 1 ≤ p ∧ p ≤ 121 ∧ 1 ≤ m1.toNat ∧ m1.toNat ≤ 125) = z := ⟨_, rfl⟩
    rw [hz]
    have HZ := Lib.hid hz
    clear hz
    have hb := (Below.refl w.heap.size w).alloc (Nat.le_refl _) (.cells #[b8 f1, b16 a1, b16 m1, .int .u16 (tt : Int), .slice aw p cw, .slice ab q cb] 26)
    have C1 := World.cell?_alloc_new w #[b8 f1, b16 a1, b16 m1, .int .u16 (tt : Int), .slice aw p cw, .slice ab q cb] 26
    go_enter Try.func11, Try.ntmps11
    go_wp2_with fail
    generalize w.alloc (.cells #[b8 f1, b16 a1, b16 m1, .int .u16 (tt : Int), .slice aw p cw, .slice ab q cb] 26) = W at *
    go_quiet (fail)
    go_wp2_with fail
    all_goals go_ret
    all_goals refine ⟨ret_bool ?_, below_drawn hb _⟩
    all_goals rw [← HZ.out, Bool.eq_iff_iff]
    all_goals simp
    all_goals first | omega | (have h0 := HTz.out; omega)
  have hno : rowN f1.toNat = none := by unfold rowN; rw [if_neg g1, if_neg g2, if_neg g3, if_neg g4, if_neg g5, if_neg g6, if_neg g15, if_neg g16, if_neg g23]
  have HR : Hid (rightN ⟨f1, a1, m1, t1, ws, bs⟩ = false) := Lib.hid (by unfold rightN; simp only [hno])
  have k1 : ((f1.toNat : Int) == 1) = false := by simp; omega
  have k2 : ((f1.toNat : Int) == 2) = false := by simp; omega
  have k3 : ((f1.toNat : Int) == 3) = false := by simp; omega
  have k4 : ((f1.toNat : Int) == 4) = false := by simp; omega
  have k5 : ((f1.toNat : Int) == 5) = false := by simp; omega
  have k6 : ((f1.toNat : Int) == 6) = false := by simp; omega
  have k15 : ((f1.toNat : Int) == 15) = false := by simp; omega
  have k16 : ((f1.toNat : Int) == 16) = false := by simp; omega
  have k23 : ((f1.toNat : Int) == 23) = false := by simp; omega
  have j23 : ((f1.toNat : Int) != 23) = true := by simp; omega
  rw [HR.out]
  show Calls Try.prog 11 #[.agg #[b8 f1, b16 a1, b16 m1, .int .u16 (t1.toNat : Int), .slice aw ws.length cw, .slice ab bs.length cb]] w _
  clear hno HR g1 g2 g3 g4 g5 g6 g15 g16 g23
  generalize ws.length = p at *
  generalize bs.length = q at *
  generalize t1.toNat = tt at *
  by_cases tz : tt = 0
  · have jt : ((tt : Int) != 0) = false := by simp; omega
    have HTz := Lib.hid tz
    clear tz
    have hb := (Below.refl w.heap.size w).alloc (Nat.le_refl _) (.cells #[b8 f1, b16 a1, b16 m1, .int .u16 (tt : Int), .slice aw p cw, .slice ab q cb] 26)
    have C1 := World.cell?_alloc_new w #[b8 f1, b16 a1, b16 m1, .int .u16 (tt : Int), .slice aw p cw, .slice ab q cb] 26
    go_enter Try.func11, Try.ntmps11
    go_wp2_with fail
    generalize w.alloc (.cells #[b8 f1, b16 a1, b16 m1, .int .u16 (tt : Int), .slice aw p cw, .slice ab q cb] 26) = W at *
    go_quiet (fail)
    go_wp2_with fail
    all_goals go_ret
    all_goals refine ⟨ret_bool ?_, below_drawn hb _⟩
    all_goals rfl
  · have jt : ((tt : Int) != 0) = true := by simp; omega
    have HTz := Lib.hid tz
    clear tz
    have hb := (Below.refl w.heap.size w).alloc (Nat.le_refl _) (.cells #[b8 f1, b16 a1, b16 m1, .int .u16 (tt : Int), .slice aw p cw, .slice ab q cb] 26)
    have C1 := World.cell?_alloc_new w #[b8 f1, b16 a1, b16 m1, .int .u16 (tt : Int), .slice aw p cw, .slice ab q cb] 26
    go_enter Try.func11, Try.ntmps11
    go_wp2_with fail
    generalize w.alloc (.cells #[b8 f1, b16 a1, b16 m1, .int .u16 (tt : Int), .slice aw p cw, .slice ab q cb] 26) = W at *
    go_quiet (fail)
    go_wp2_with fail
    all_goals go_ret
    all_goals refine ⟨ret_bool ?_, below_drawn hb _⟩
    all_goals rfl
end Go.Proofs.Ytenfcpdoingdeaa.RefW
