/- The document's own answer: which replies are right. -/
import Derived.Test.YtenfcpdoingdeaaRefRight
import Derived.Test.YtenfcpdoingdeaaReplyA
open Go.RowKit
namespace Go.Proofs.Ytenfcpdoingdeaa.RefW
open AskM AskW ReplyM ReplyW Mem

theorem zero8 {t : UInt8} : t = 0 ↔ t.toNat = 0 := ⟨fun h => by rw [h]; rfl, fun h => UInt8.toNat_inj.1 h⟩
theorem mod128 {f : UInt8} : f = f % 128 ↔ f.toNat ≤ 127 := by
  constructor
  · intro h
    have := congrArg UInt8.toNat h
    rw [UInt8.toNat_mod] at this
    have h2 : (128 : UInt8).toNat = 128 := rfl
    rw [h2] at this
    omega
  · intro h
    apply UInt8.toNat_inj.1
    rw [UInt8.toNat_mod]
    show f.toNat = f.toNat % 128
    omega
section
variable {f x : UInt8} {a m : UInt16} {ws : List UInt16} {bs : List Bool}
theorem rright_kind {k : Kind} (h : kindForN ⟨f, x, bs, ws, a, m⟩ = some k) : rrightN ⟨f, x, bs, ws, a, m⟩ = rightK k ⟨f, x, bs, ws, a, m⟩ := by
  unfold rrightN
  rw [h]
theorem rk_exc (hx : 1 ≤ x.toNat) : rightK .exc ⟨f, x, bs, ws, a, m⟩ = decide (f.toNat ≤ 127 ∧ x.toNat ≤ 4 ∧ bs.length = 0 ∧ ws.length = 0 ∧ a.toNat = 0 ∧ m.toNat = 0) := by
  rw [Bool.eq_iff_iff]
  simp only [rightK, countK, onlyK, wrongN, Bool.and_eq_true, decide_eq_true_eq, Rep.mk.injEq, zero16, zero8, mod128, len0, true_and, and_true]
  generalize bs.length = q
  generalize ws.length = p
  omega
theorem rk_bits (hx : x.toNat = 0) : rightK .bitsR ⟨f, x, bs, ws, a, m⟩ = decide (8 ≤ bs.length ∧ bs.length ≤ 2000 ∧ bs.length % 8 = 0 ∧ ws.length = 0 ∧ a.toNat = 0 ∧ m.toNat = 0) := by
  rw [Bool.eq_iff_iff]
  simp only [rightK, countK, onlyK, wrongN, Bool.and_eq_true, decide_eq_true_eq, Rep.mk.injEq, zero16, zero8, mod128, len0, true_and, and_true]
  generalize bs.length = q
  generalize ws.length = p
  omega
theorem rk_words (hx : x.toNat = 0) : rightK .wordsR ⟨f, x, bs, ws, a, m⟩ = decide (bs.length = 0 ∧ 1 ≤ ws.length ∧ ws.length ≤ 125 ∧ a.toNat = 0 ∧ m.toNat = 0) := by
  rw [Bool.eq_iff_iff]
  simp only [rightK, countK, onlyK, wrongN, Bool.and_eq_true, decide_eq_true_eq, Rep.mk.injEq, zero16, zero8, mod128, len0, true_and, and_true]
  generalize bs.length = q
  generalize ws.length = p
  omega
theorem rk_bit (hx : x.toNat = 0) : rightK .bitW ⟨f, x, bs, ws, a, m⟩ = decide (bs.length = 1 ∧ ws.length = 0 ∧ m.toNat = 0) := by
  rw [Bool.eq_iff_iff]
  simp only [rightK, countK, onlyK, wrongN, Bool.and_eq_true, decide_eq_true_eq, Rep.mk.injEq, zero16, zero8, mod128, len0, true_and, and_true]
  generalize bs.length = q
  generalize ws.length = p
  omega
theorem rk_word (hx : x.toNat = 0) : rightK .wordW ⟨f, x, bs, ws, a, m⟩ = decide (bs.length = 0 ∧ ws.length = 1 ∧ m.toNat = 0) := by
  rw [Bool.eq_iff_iff]
  simp only [rightK, countK, onlyK, wrongN, Bool.and_eq_true, decide_eq_true_eq, Rep.mk.injEq, zero16, zero8, mod128, len0, true_and, and_true]
  generalize bs.length = q
  generalize ws.length = p
  omega
theorem rk_l15 (hx : x.toNat = 0) : rightK (.listW 1968) ⟨f, x, bs, ws, a, m⟩ = decide (bs.length = 0 ∧ ws.length = 0 ∧ 1 ≤ m.toNat ∧ m.toNat ≤ 1968) := by
  rw [Bool.eq_iff_iff]
  simp only [rightK, countK, onlyK, wrongN, Bool.and_eq_true, decide_eq_true_eq, Rep.mk.injEq, zero16, zero8, mod128, len0, true_and, and_true]
  generalize bs.length = q
  generalize ws.length = p
  omega
theorem rk_l16 (hx : x.toNat = 0) : rightK (.listW 123) ⟨f, x, bs, ws, a, m⟩ = decide (bs.length = 0 ∧ ws.length = 0 ∧ 1 ≤ m.toNat ∧ m.toNat ≤ 123) := by
  rw [Bool.eq_iff_iff]
  simp only [rightK, countK, onlyK, wrongN, Bool.and_eq_true, decide_eq_true_eq, Rep.mk.injEq, zero16, zero8, mod128, len0, true_and, and_true]
  generalize bs.length = q
  generalize ws.length = p
  omega
end

set_option maxRecDepth 100000 in
set_option maxHeartbeats 8000000 in
theorem rRRight_any (r : Rep) (aw : Option Addr) (cw : Nat) (ab : Option Addr) (cb : Nat) (w : World) (hnw : r.words.length ≤ 1000000) (hnb : r.bits.length ≤ 1000000) :
    Calls Try.prog 30 #[repV r aw cw ab cb] w (Says (.bool (rrightN r)) w) := by
  obtain ⟨f1, x1, bs, ws, a1, m1⟩ := r
  simp only at hnw hnb
  have hf8 := f1.toNat_lt
  have hx8 := x1.toNat_lt
  have hm16 := m1.toNat_lt
  have ha16 := a1.toNat_lt
  by_cases hx : x1.toNat = 0
  case neg =>
    have HR : Hid (rrightN ⟨f1, x1, bs, ws, a1, m1⟩ = decide (f1.toNat ≤ 127 ∧ x1.toNat ≤ 4 ∧ bs.length = 0 ∧ ws.length = 0 ∧ a1.toNat = 0 ∧ m1.toNat = 0)) := Lib.hid ((rright_kind (by unfold kindForN; rw [if_pos (show 0 < x1.toNat by omega)])).trans (rk_exc (by omega)))
    rw [HR.out]
    show Calls Try.prog 30 #[.agg #[b8 f1, .int .u8 (x1.toNat : Int), .slice ab bs.length cb, .slice aw ws.length cw, .int .u16 (a1.toNat : Int), .int .u16 (m1.toNat : Int)]] w _
    clear HR
    generalize ws.length = p at *
    generalize bs.length = q at *
    generalize a1.toNat = aa at *
    generalize m1.toNat = mm at *
    generalize x1.toNat = xx at *
    have t0 : ((xx : Int) != 0) = true := by simp; omega
    obtain ⟨z, hz⟩ : ∃ z, decide (f1.toNat ≤ 127 ∧ xx ≤ 4 ∧ q = 0 ∧ p = 0 ∧ aa = 0 ∧ mm = 0) = z := ⟨_, rfl⟩
    rw [hz]
    have HZ := Lib.hid hz
    have HX := Lib.hid hx
    clear hz hx
    have hb := (Below.refl w.heap.size w).alloc (Nat.le_refl _) (.cells #[b8 f1, .int .u8 (xx : Int), .slice ab q cb, .slice aw p cw, .int .u16 (aa : Int), .int .u16 (mm : Int)] 45)
    have C1 := World.cell?_alloc_new w #[b8 f1, .int .u8 (xx : Int), .slice ab q cb, .slice aw p cw, .int .u16 (aa : Int), .int .u16 (mm : Int)] 45
    go_enter Try.func30, Try.ntmps30
    go_wp2_with fail
    generalize w.alloc (.cells #[b8 f1, .int .u8 (xx : Int), .slice ab q cb, .slice aw p cw, .int .u16 (aa : Int), .int .u16 (mm : Int)] 45) = W at *
    go_quiet (fail)
    go_wp2_with fail
    all_goals go_ret
    all_goals refine ⟨ret_bool ?_, below_drawn hb _⟩
    all_goals rw [← HZ.out, Bool.eq_iff_iff]
    all_goals simp
    all_goals first | omega | (have h0 := HX.out; omega)
  by_cases g1 : f1.toNat = 1
  · have HR : Hid (rrightN ⟨f1, x1, bs, ws, a1, m1⟩ = decide (8 ≤ bs.length ∧ bs.length ≤ 2000 ∧ bs.length % 8 = 0 ∧ ws.length = 0 ∧ a1.toNat = 0 ∧ m1.toNat = 0)) := Lib.hid ((rright_kind (by unfold kindForN; rw [if_neg (show ¬ 0 < x1.toNat by omega)]; unfold kindOfN; simp only [g1]; rfl)).trans (rk_bits hx))
    rw [HR.out]
    show Calls Try.prog 30 #[.agg #[b8 f1, .int .u8 (x1.toNat : Int), .slice ab bs.length cb, .slice aw ws.length cw, .int .u16 (a1.toNat : Int), .int .u16 (m1.toNat : Int)]] w _
    clear HR
    generalize ws.length = p at *
    generalize bs.length = q at *
    generalize a1.toNat = aa at *
    generalize m1.toNat = mm at *
    generalize x1.toNat = xx at *
    have t0 : ((xx : Int) != 0) = false := by simp; omega
    have k1 : ((f1.toNat : Int) == 1) = true := by simp; omega
    clear g1
    obtain ⟨z, hz⟩ : ∃ z, decide (8 ≤ q ∧ q ≤ 2000 ∧ q % 8 = 0 ∧ p = 0 ∧ aa = 0 ∧ mm = 0) = z := ⟨_, rfl⟩
    rw [hz]
    have HZ := Lib.hid hz
    have HX := Lib.hid hx
    clear hz hx
    have hb := (Below.refl w.heap.size w).alloc (Nat.le_refl _) (.cells #[b8 f1, .int .u8 (xx : Int), .slice ab q cb, .slice aw p cw, .int .u16 (aa : Int), .int .u16 (mm : Int)] 45)
    have C1 := World.cell?_alloc_new w #[b8 f1, .int .u8 (xx : Int), .slice ab q cb, .slice aw p cw, .int .u16 (aa : Int), .int .u16 (mm : Int)] 45
    go_enter Try.func30, Try.ntmps30
    go_wp2_with fail
    generalize w.alloc (.cells #[b8 f1, .int .u8 (xx : Int), .slice ab q cb, .slice aw p cw, .int .u16 (aa : Int), .int .u16 (mm : Int)] 45) = W at *
    go_quiet (fail)
    go_wp2_with fail
    all_goals go_ret
    all_goals refine ⟨ret_bool ?_, below_drawn hb _⟩
    all_goals rw [← HZ.out, Bool.eq_iff_iff]
    all_goals simp
    all_goals first | omega | (have h0 := HX.out; omega)
  by_cases g2 : f1.toNat = 2
  · have HR : Hid (rrightN ⟨f1, x1, bs, ws, a1, m1⟩ = decide (8 ≤ bs.length ∧ bs.length ≤ 2000 ∧ bs.length % 8 = 0 ∧ ws.length = 0 ∧ a1.toNat = 0 ∧ m1.toNat = 0)) := Lib.hid ((rright_kind (by unfold kindForN; rw [if_neg (show ¬ 0 < x1.toNat by omega)]; unfold kindOfN; simp only [g2]; rfl)).trans (rk_bits hx))
    rw [HR.out]
    show Calls Try.prog 30 #[.agg #[b8 f1, .int .u8 (x1.toNat : Int), .slice ab bs.length cb, .slice aw ws.length cw, .int .u16 (a1.toNat : Int), .int .u16 (m1.toNat : Int)]] w _
    clear HR
    generalize ws.length = p at *
    generalize bs.length = q at *
    generalize a1.toNat = aa at *
    generalize m1.toNat = mm at *
    generalize x1.toNat = xx at *
    have t0 : ((xx : Int) != 0) = false := by simp; omega
    have k1 : ((f1.toNat : Int) == 1) = false := by simp; omega
    have k2 : ((f1.toNat : Int) == 2) = true := by simp; omega
    clear g1 g2
    obtain ⟨z, hz⟩ : ∃ z, decide (8 ≤ q ∧ q ≤ 2000 ∧ q % 8 = 0 ∧ p = 0 ∧ aa = 0 ∧ mm = 0) = z := ⟨_, rfl⟩
    rw [hz]
    have HZ := Lib.hid hz
    have HX := Lib.hid hx
    clear hz hx
    have hb := (Below.refl w.heap.size w).alloc (Nat.le_refl _) (.cells #[b8 f1, .int .u8 (xx : Int), .slice ab q cb, .slice aw p cw, .int .u16 (aa : Int), .int .u16 (mm : Int)] 45)
    have C1 := World.cell?_alloc_new w #[b8 f1, .int .u8 (xx : Int), .slice ab q cb, .slice aw p cw, .int .u16 (aa : Int), .int .u16 (mm : Int)] 45
    go_enter Try.func30, Try.ntmps30
    go_wp2_with fail
    generalize w.alloc (.cells #[b8 f1, .int .u8 (xx : Int), .slice ab q cb, .slice aw p cw, .int .u16 (aa : Int), .int .u16 (mm : Int)] 45) = W at *
    go_quiet (fail)
    go_wp2_with fail
    all_goals go_ret
    all_goals refine ⟨ret_bool ?_, below_drawn hb _⟩
    all_goals rw [← HZ.out, Bool.eq_iff_iff]
    all_goals simp
    all_goals first | omega | (have h0 := HX.out; omega)
  by_cases g3 : f1.toNat = 3
  · have HR : Hid (rrightN ⟨f1, x1, bs, ws, a1, m1⟩ = decide (bs.length = 0 ∧ 1 ≤ ws.length ∧ ws.length ≤ 125 ∧ a1.toNat = 0 ∧ m1.toNat = 0)) := Lib.hid ((rright_kind (by unfold kindForN; rw [if_neg (show ¬ 0 < x1.toNat by omega)]; unfold kindOfN; simp only [g3]; rfl)).trans (rk_words hx))
    rw [HR.out]
    show Calls Try.prog 30 #[.agg #[b8 f1, .int .u8 (x1.toNat : Int), .slice ab bs.length cb, .slice aw ws.length cw, .int .u16 (a1.toNat : Int), .int .u16 (m1.toNat : Int)]] w _
    clear HR
    generalize ws.length = p at *
    generalize bs.length = q at *
    generalize a1.toNat = aa at *
    generalize m1.toNat = mm at *
    generalize x1.toNat = xx at *
    have t0 : ((xx : Int) != 0) = false := by simp; omega
    have k1 : ((f1.toNat : Int) == 1) = false := by simp; omega
    have k2 : ((f1.toNat : Int) == 2) = false := by simp; omega
    have k3 : ((f1.toNat : Int) == 3) = true := by simp; omega
    clear g1 g2 g3
    obtain ⟨z, hz⟩ : ∃ z, decide (q = 0 ∧ 1 ≤ p ∧ p ≤ 125 ∧ aa = 0 ∧ mm = 0) = z := ⟨_, rfl⟩
    rw [hz]
    have HZ := Lib.hid hz
    have HX := Lib.hid hx
    clear hz hx
    have hb := (Below.refl w.heap.size w).alloc (Nat.le_refl _) (.cells #[b8 f1, .int .u8 (xx : Int), .slice ab q cb, .slice aw p cw, .int .u16 (aa : Int), .int .u16 (mm : Int)] 45)
    have C1 := World.cell?_alloc_new w #[b8 f1, .int .u8 (xx : Int), .slice ab q cb, .slice aw p cw, .int .u16 (aa : Int), .int .u16 (mm : Int)] 45
    go_enter Try.func30, Try.ntmps30
    go_wp2_with fail
    generalize w.alloc (.cells #[b8 f1, .int .u8 (xx : Int), .slice ab q cb, .slice aw p cw, .int .u16 (aa : Int), .int .u16 (mm : Int)] 45) = W at *
    go_quiet (fail)
    go_wp2_with fail
    all_goals go_ret
    all_goals refine ⟨ret_bool ?_, below_drawn hb _⟩
    all_goals rw [← HZ.out, Bool.eq_iff_iff]
    all_goals simp
    all_goals first | omega | (have h0 := HX.out; omega)
  by_cases g4 : f1.toNat = 4
  · have HR : Hid (rrightN ⟨f1, x1, bs, ws, a1, m1⟩ = decide (bs.length = 0 ∧ 1 ≤ ws.length ∧ ws.length ≤ 125 ∧ a1.toNat = 0 ∧ m1.toNat = 0)) := Lib.hid ((rright_kind (by unfold kindForN; rw [if_neg (show ¬ 0 < x1.toNat by omega)]; unfold kindOfN; simp only [g4]; rfl)).trans (rk_words hx))
    rw [HR.out]
    show Calls Try.prog 30 #[.agg #[b8 f1, .int .u8 (x1.toNat : Int), .slice ab bs.length cb, .slice aw ws.length cw, .int .u16 (a1.toNat : Int), .int .u16 (m1.toNat : Int)]] w _
    clear HR
    generalize ws.length = p at *
    generalize bs.length = q at *
    generalize a1.toNat = aa at *
    generalize m1.toNat = mm at *
    generalize x1.toNat = xx at *
    have t0 : ((xx : Int) != 0) = false := by simp; omega
    have k1 : ((f1.toNat : Int) == 1) = false := by simp; omega
    have k2 : ((f1.toNat : Int) == 2) = false := by simp; omega
    have k3 : ((f1.toNat : Int) == 3) = false := by simp; omega
    have k4 : ((f1.toNat : Int) == 4) = true := by simp; omega
    clear g1 g2 g3 g4
    obtain ⟨z, hz⟩ : ∃ z, decide (q = 0 ∧ 1 ≤ p ∧ p ≤ 125 ∧ aa = 0 ∧ mm = 0) = z := ⟨_, rfl⟩
    rw [hz]
    have HZ := Lib.hid hz
    have HX := Lib.hid hx
    clear hz hx
    have hb := (Below.refl w.heap.size w).alloc (Nat.le_refl _) (.cells #[b8 f1, .int .u8 (xx : Int), .slice ab q cb, .slice aw p cw, .int .u16 (aa : Int), .int .u16 (mm : Int)] 45)
    have C1 := World.cell?_alloc_new w #[b8 f1, .int .u8 (xx : Int), .slice ab q cb, .slice aw p cw, .int .u16 (aa : Int), .int .u16 (mm : Int)] 45
    go_enter Try.func30, Try.ntmps30
    go_wp2_with fail
    generalize w.alloc (.cells #[b8 f1, .int .u8 (xx : Int), .slice ab q cb, .slice aw p cw, .int .u16 (aa : Int), .int .u16 (mm : Int)] 45) = W at *
    go_quiet (fail)
    go_wp2_with fail
    all_goals go_ret
    all_goals refine ⟨ret_bool ?_, below_drawn hb _⟩
    all_goals rw [← HZ.out, Bool.eq_iff_iff]
    all_goals simp
    all_goals first | omega | (have h0 := HX.out; omega)
  by_cases g23 : f1.toNat = 23
  · have HR : Hid (rrightN ⟨f1, x1, bs, ws, a1, m1⟩ = decide (bs.length = 0 ∧ 1 ≤ ws.length ∧ ws.length ≤ 125 ∧ a1.toNat = 0 ∧ m1.toNat = 0)) := Lib.hid ((rright_kind (by unfold kindForN; rw [if_neg (show ¬ 0 < x1.toNat by omega)]; unfold kindOfN; simp only [g23]; rfl)).trans (rk_words hx))
    rw [HR.out]
    show Calls Try.prog 30 #[.agg #[b8 f1, .int .u8 (x1.toNat : Int), .slice ab bs.length cb, .slice aw ws.length cw, .int .u16 (a1.toNat : Int), .int .u16 (m1.toNat : Int)]] w _
    clear HR
    generalize ws.length = p at *
    generalize bs.length = q at *
    generalize a1.toNat = aa at *
    generalize m1.toNat = mm at *
    generalize x1.toNat = xx at *
    have t0 : ((xx : Int) != 0) = false := by simp; omega
    have k1 : ((f1.toNat : Int) == 1) = false := by simp; omega
    have k2 : ((f1.toNat : Int) == 2) = false := by simp; omega
    have k3 : ((f1.toNat : Int) == 3) = false := by simp; omega
    have k4 : ((f1.toNat : Int) == 4) = false := by simp; omega
    have k23 : ((f1.toNat : Int) == 23) = true := by simp; omega
    clear g1 g2 g3 g4 g23
    obtain ⟨z, hz⟩ : ∃ z, decide (q = 0 ∧ 1 ≤ p ∧ p ≤ 125 ∧ aa = 0 ∧ mm = 0) = z := ⟨_, rfl⟩
    rw [hz]
    have HZ := Lib.hid hz
    have HX := Lib.hid hx
    clear hz hx
    have hb := (Below.refl w.heap.size w).alloc (Nat.le_refl _) (.cells #[b8 f1, .int .u8 (xx : Int), .slice ab q cb, .slice aw p cw, .int .u16 (aa : Int), .int .u16 (mm : Int)] 45)
    have C1 := World.cell?_alloc_new w #[b8 f1, .int .u8 (xx : Int), .slice ab q cb, .slice aw p cw, .int .u16 (aa : Int), .int .u16 (mm : Int)] 45
    go_enter Try.func30, Try.ntmps30
    go_wp2_with fail
    generalize w.alloc (.cells #[b8 f1, .int .u8 (xx : Int), .slice ab q cb, .slice aw p cw, .int .u16 (aa : Int), .int .u16 (mm : Int)] 45) = W at *
    go_quiet (fail)
    go_wp2_with fail
    all_goals go_ret
    all_goals refine ⟨ret_bool ?_, below_drawn hb _⟩
    all_goals rw [← HZ.out, Bool.eq_iff_iff]
    all_goals simp
    all_goals first | omega | (have h0 := HX.out; omega)
  by_cases g5 : f1.toNat = 5
  · have HR : Hid (rrightN ⟨f1, x1, bs, ws, a1, m1⟩ = decide (bs.length = 1 ∧ ws.length = 0 ∧ m1.toNat = 0)) := Lib.hid ((rright_kind (by unfold kindForN; rw [if_neg (show ¬ 0 < x1.toNat by omega)]; unfold kindOfN; simp only [g5]; rfl)).trans (rk_bit hx))
    rw [HR.out]
    show Calls Try.prog 30 #[.agg #[b8 f1, .int .u8 (x1.toNat : Int), .slice ab bs.length cb, .slice aw ws.length cw, .int .u16 (a1.toNat : Int), .int .u16 (m1.toNat : Int)]] w _
    clear HR
    generalize ws.length = p at *
    generalize bs.length = q at *
    generalize a1.toNat = aa at *
    generalize m1.toNat = mm at *
    generalize x1.toNat = xx at *
    have t0 : ((xx : Int) != 0) = false := by simp; omega
    have k1 : ((f1.toNat : Int) == 1) = false := by simp; omega
    have k2 : ((f1.toNat : Int) == 2) = false := by simp; omega
    have k3 : ((f1.toNat : Int) == 3) = false := by simp; omega
    have k4 : ((f1.toNat : Int) == 4) = false := by simp; omega
    have k23 : ((f1.toNat : Int) == 23) = false := by simp; omega
    have k5 : ((f1.toNat : Int) == 5) = true := by simp; omega
    clear g1 g2 g3 g4 g23 g5
    obtain ⟨z, hz⟩ : ∃ z, decide (q = 1 ∧ p = 0 ∧ mm = 0) = z := ⟨_, rfl⟩
    rw [hz]
    have HZ := Lib.hid hz
    have HX := Lib.hid hx
    clear hz hx
    have hb := (Below.refl w.heap.size w).alloc (Nat.le_refl _) (.cells #[b8 f1, .int .u8 (xx : Int), .slice ab q cb, .slice aw p cw, .int .u16 (aa : Int), .int .u16 (mm : Int)] 45)
    have C1 := World.cell?_alloc_new w #[b8 f1, .int .u8 (xx : Int), .slice ab q cb, .slice aw p cw, .int .u16 (aa : Int), .int .u16 (mm : Int)] 45
    go_enter Try.func30, Try.ntmps30
    go_wp2_with fail
    generalize w.alloc (.cells #[b8 f1, .int .u8 (xx : Int), .slice ab q cb, .slice aw p cw, .int .u16 (aa : Int), .int .u16 (mm : Int)] 45) = W at *
    go_quiet (fail)
    go_wp2_with fail
    all_goals go_ret
    all_goals refine ⟨ret_bool ?_, below_drawn hb _⟩
    all_goals rw [← HZ.out, Bool.eq_iff_iff]
    all_goals simp
    all_goals first | omega | (have h0 := HX.out; omega)
  by_cases g6 : f1.toNat = 6
  · have HR : Hid (rrightN ⟨f1, x1, bs, ws, a1, m1⟩ = decide (bs.length = 0 ∧ ws.length = 1 ∧ m1.toNat = 0)) := Lib.hid ((rright_kind (by unfold kindForN; rw [if_neg (show ¬ 0 < x1.toNat by omega)]; unfold kindOfN; simp only [g6]; rfl)).trans (rk_word hx))
    rw [HR.out]
    show Calls Try.prog 30 #[.agg #[b8 f1, .int .u8 (x1.toNat : Int), .slice ab bs.length cb, .slice aw ws.length cw, .int .u16 (a1.toNat : Int), .int .u16 (m1.toNat : Int)]] w _
    clear HR
    generalize ws.length = p at *
    generalize bs.length = q at *
    generalize a1.toNat = aa at *
    generalize m1.toNat = mm at *
    generalize x1.toNat = xx at *
    have t0 : ((xx : Int) != 0) = false := by simp; omega
    have k1 : ((f1.toNat : Int) == 1) = false := by simp; omega
    have k2 : ((f1.toNat : Int) == 2) = false := by simp; omega
    have k3 : ((f1.toNat : Int) == 3) = false := by simp; omega
    have k4 : ((f1.toNat : Int) == 4) = false := by simp; omega
    have k23 : ((f1.toNat : Int) == 23) = false := by simp; omega
    have k5 : ((f1.toNat : Int) == 5) = false := by simp; omega
    have k6 : ((f1.toNat : Int) == 6) = true := by simp; omega
    clear g1 g2 g3 g4 g23 g5 g6
    obtain ⟨z, hz⟩ : ∃ z, decide (q = 0 ∧ p = 1 ∧ mm = 0) = z := ⟨_, rfl⟩
    rw [hz]
    have HZ := Lib.hid hz
    have HX := Lib.hid hx
    clear hz hx
    have hb := (Below.refl w.heap.size w).alloc (Nat.le_refl _) (.cells #[b8 f1, .int .u8 (xx : Int), .slice ab q cb, .slice aw p cw, .int .u16 (aa : Int), .int .u16 (mm : Int)] 45)
    have C1 := World.cell?_alloc_new w #[b8 f1, .int .u8 (xx : Int), .slice ab q cb, .slice aw p cw, .int .u16 (aa : Int), .int .u16 (mm : Int)] 45
    go_enter Try.func30, Try.ntmps30
    go_wp2_with fail
    generalize w.alloc (.cells #[b8 f1, .int .u8 (xx : Int), .slice ab q cb, .slice aw p cw, .int .u16 (aa : Int), .int .u16 (mm : Int)] 45) = W at *
    go_quiet (fail)
    go_wp2_with fail
    all_goals go_ret
    all_goals refine ⟨ret_bool ?_, below_drawn hb _⟩
    all_goals rw [← HZ.out, Bool.eq_iff_iff]
    all_goals simp
    all_goals first | omega | (have h0 := HX.out; omega)
  by_cases g15 : f1.toNat = 15
  · have HR : Hid (rrightN ⟨f1, x1, bs, ws, a1, m1⟩ = decide (bs.length = 0 ∧ ws.length = 0 ∧ 1 ≤ m1.toNat ∧ m1.toNat ≤ 1968)) := Lib.hid ((rright_kind (by unfold kindForN; rw [if_neg (show ¬ 0 < x1.toNat by omega)]; unfold kindOfN; simp only [g15]; rfl)).trans (rk_l15 hx))
    rw [HR.out]
    show Calls Try.prog 30 #[.agg #[b8 f1, .int .u8 (x1.toNat : Int), .slice ab bs.length cb, .slice aw ws.length cw, .int .u16 (a1.toNat : Int), .int .u16 (m1.toNat : Int)]] w _
    clear HR
    generalize ws.length = p at *
    generalize bs.length = q at *
    generalize a1.toNat = aa at *
    generalize m1.toNat = mm at *
    generalize x1.toNat = xx at *
    have t0 : ((xx : Int) != 0) = false := by simp; omega
    have k1 : ((f1.toNat : Int) == 1) = false := by simp; omega
    have k2 : ((f1.toNat : Int) == 2) = false := by simp; omega
    have k3 : ((f1.toNat : Int) == 3) = false := by simp; omega
    have k4 : ((f1.toNat : Int) == 4) = false := by simp; omega
    have k23 : ((f1.toNat : Int) == 23) = false := by simp; omega
    have k5 : ((f1.toNat : Int) == 5) = false := by simp; omega
    have k6 : ((f1.toNat : Int) == 6) = false := by simp; omega
    have k15 : ((f1.toNat : Int) == 15) = true := by simp; omega
    clear g1 g2 g3 g4 g23 g5 g6 g15
    obtain ⟨z, hz⟩ : ∃ z, decide (q = 0 ∧ p = 0 ∧ 1 ≤ mm ∧ mm ≤ 1968) = z := ⟨_, rfl⟩
    rw [hz]
    have HZ := Lib.hid hz
    have HX := Lib.hid hx
    clear hz hx
    have hb := (Below.refl w.heap.size w).alloc (Nat.le_refl _) (.cells #[b8 f1, .int .u8 (xx : Int), .slice ab q cb, .slice aw p cw, .int .u16 (aa : Int), .int .u16 (mm : Int)] 45)
    have C1 := World.cell?_alloc_new w #[b8 f1, .int .u8 (xx : Int), .slice ab q cb, .slice aw p cw, .int .u16 (aa : Int), .int .u16 (mm : Int)] 45
    go_enter Try.func30, Try.ntmps30
    go_wp2_with fail
    generalize w.alloc (.cells #[b8 f1, .int .u8 (xx : Int), .slice ab q cb, .slice aw p cw, .int .u16 (aa : Int), .int .u16 (mm : Int)] 45) = W at *
    go_quiet (fail)
    go_wp2_with fail
    all_goals go_ret
    all_goals refine ⟨ret_bool ?_, below_drawn hb _⟩
    all_goals rw [← HZ.out, Bool.eq_iff_iff]
    all_goals simp
    all_goals first | omega | (have h0 := HX.out; omega)
  by_cases g16 : f1.toNat = 16
  · have HR : Hid (rrightN ⟨f1, x1, bs, ws, a1, m1⟩ = decide (bs.length = 0 ∧ ws.length = 0 ∧ 1 ≤ m1.toNat ∧ m1.toNat ≤ 123)) := Lib.hid ((rright_kind (by unfold kindForN; rw [if_neg (show ¬ 0 < x1.toNat by omega)]; unfold kindOfN; simp only [g16]; rfl)).trans (rk_l16 hx))
    rw [HR.out]
    show Calls Try.prog 30 #[.agg #[b8 f1, .int .u8 (x1.toNat : Int), .slice ab bs.length cb, .slice aw ws.length cw, .int .u16 (a1.toNat : Int), .int .u16 (m1.toNat : Int)]] w _
    clear HR
    generalize ws.length = p at *
    generalize bs.length = q at *
    generalize a1.toNat = aa at *
    generalize m1.toNat = mm at *
    generalize x1.toNat = xx at *
    have t0 : ((xx : Int) != 0) = false := by simp; omega
    have k1 : ((f1.toNat : Int) == 1) = false := by simp; omega
    have k2 : ((f1.toNat : Int) == 2) = false := by simp; omega
    have k3 : ((f1.toNat : Int) == 3) = false := by simp; omega
    have k4 : ((f1.toNat : Int) == 4) = false := by simp; omega
    have k23 : ((f1.toNat : Int) == 23) = false := by simp; omega
    have k5 : ((f1.toNat : Int) == 5) = false := by simp; omega
    have k6 : ((f1.toNat : Int) == 6) = false := by simp; omega
    have k15 : ((f1.toNat : Int) == 15) = false := by simp; omega
    have k16 : ((f1.toNat : Int) == 16) = true := by simp; omega
    clear g1 g2 g3 g4 g23 g5 g6 g15 g16
    obtain ⟨z, hz⟩ : ∃ z, decide (q = 0 ∧ p = 0 ∧ 1 ≤ mm ∧ mm ≤ 123) = z := ⟨_, rfl⟩
    rw [hz]
    have HZ := Lib.hid hz
    have HX := Lib.hid hx
    clear hz hx
    have hb := (Below.refl w.heap.size w).alloc (Nat.le_refl _) (.cells #[b8 f1, .int .u8 (xx : Int), .slice ab q cb, .slice aw p cw, .int .u16 (aa : Int), .int .u16 (mm : Int)] 45)
    have C1 := World.cell?_alloc_new w #[b8 f1, .int .u8 (xx : Int), .slice ab q cb, .slice aw p cw, .int .u16 (aa : Int), .int .u16 (mm : Int)] 45
    go_enter Try.func30, Try.ntmps30
    go_wp2_with fail
    generalize w.alloc (.cells #[b8 f1, .int .u8 (xx : Int), .slice ab q cb, .slice aw p cw, .int .u16 (aa : Int), .int .u16 (mm : Int)] 45) = W at *
    go_quiet (fail)
    go_wp2_with fail
    all_goals go_ret
    all_goals refine ⟨ret_bool ?_, below_drawn hb _⟩
    all_goals rw [← HZ.out, Bool.eq_iff_iff]
    all_goals simp
    all_goals first | omega | (have h0 := HX.out; omega)
  have HR : Hid (rrightN ⟨f1, x1, bs, ws, a1, m1⟩ = false) := Lib.hid (by
    unfold rrightN kindForN
    rw [if_neg (show ¬ 0 < x1.toNat by omega)]
    unfold kindOfN
    by_cases h128 : 128 ≤ f1.toNat
    · simp only [h128, if_true]
      show rightK .exc _ = false
      unfold rightK countK
      simp [hx]
    · simp only [h128, g1, g2, g3, g4, g5, g6, g15, g16, g23, if_false])
  rw [HR.out]
  show Calls Try.prog 30 #[.agg #[b8 f1, .int .u8 (x1.toNat : Int), .slice ab bs.length cb, .slice aw ws.length cw, .int .u16 (a1.toNat : Int), .int .u16 (m1.toNat : Int)]] w _
  clear HR
  generalize ws.length = p at *
  generalize bs.length = q at *
  generalize a1.toNat = aa at *
  generalize m1.toNat = mm at *
  generalize x1.toNat = xx at *
  have t0 : ((xx : Int) != 0) = false := by simp; omega
  have k1 : ((f1.toNat : Int) == 1) = false := by simp; omega
  have k2 : ((f1.toNat : Int) == 2) = false := by simp; omega
  have k3 : ((f1.toNat : Int) == 3) = false := by simp; omega
  have k4 : ((f1.toNat : Int) == 4) = false := by simp; omega
  have k23 : ((f1.toNat : Int) == 23) = false := by simp; omega
  have k5 : ((f1.toNat : Int) == 5) = false := by simp; omega
  have k6 : ((f1.toNat : Int) == 6) = false := by simp; omega
  have k15 : ((f1.toNat : Int) == 15) = false := by simp; omega
  have k16 : ((f1.toNat : Int) == 16) = false := by simp; omega
  clear g1 g2 g3 g4 g23 g5 g6 g15 g16
  have HX := Lib.hid hx
  clear hx
  have hb := (Below.refl w.heap.size w).alloc (Nat.le_refl _) (.cells #[b8 f1, .int .u8 (xx : Int), .slice ab q cb, .slice aw p cw, .int .u16 (aa : Int), .int .u16 (mm : Int)] 45)
  have C1 := World.cell?_alloc_new w #[b8 f1, .int .u8 (xx : Int), .slice ab q cb, .slice aw p cw, .int .u16 (aa : Int), .int .u16 (mm : Int)] 45
  go_enter Try.func30, Try.ntmps30
  go_wp2_with fail
  generalize w.alloc (.cells #[b8 f1, .int .u8 (xx : Int), .slice ab q cb, .slice aw p cw, .int .u16 (aa : Int), .int .u16 (mm : Int)] 45) = W at *
  go_quiet (fail)
  go_wp2_with fail
  all_goals go_ret
  all_goals refine ⟨ret_bool ?_, below_drawn hb _⟩
  all_goals rfl
end Go.Proofs.Ytenfcpdoingdeaa.RefW
