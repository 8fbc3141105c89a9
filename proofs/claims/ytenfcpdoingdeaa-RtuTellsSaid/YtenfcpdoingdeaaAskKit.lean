/- Calls whose answers are known, in whatever world behind; rows of bytes compared; cells just built. -/
import Derived.Test.YtenfcpdoingdeaaAskAwake
open Go.RowKit
namespace Go.Proofs.Ytenfcpdoingdeaa.AskW
open AskM Mem

theorem few_true {n m : Nat} (h1 : n ≤ 200) (h2 : m ≤ 2100) : (decide (n ≤ 200) && decide (m ≤ 2100)) = true := by simp [h1, h2]
theorem few_false {n m : Nat} (h : ¬ (n ≤ 200 ∧ m ≤ 2100)) : (decide (n ≤ 200) && decide (m ≤ 2100)) = false := by
  rw [Bool.and_eq_false_iff]; simp; omega
/-- Calls whose answers are known, in whatever world behind W. -/
theorem awake_on {W0 : World} (W : World) (h : Below W0.heap.size W0 W) : Calls Try.prog 7 #[] W fun e W' => e = .returned (.bool true) ∧ Below W0.heap.size W0 W' :=
  (awake_any W).mono fun _ _ ⟨he, hb⟩ => ⟨he, h.trans (hb.mono h.size)⟩
theorem lowsame_on {W0 : World} {a b : Option Addr} {n c k d : Nat} {l m : List UInt8} (hl : Sl b8 W0 W0.heap.size a n c l) (hm : Sl b8 W0 W0.heap.size b k d m) {x : Bool} (hx : decide (l = m) = x) (W : World) (h : Below W0.heap.size W0 W) :
    Calls Try.prog 14 #[.slice a n c, .slice b k d] W fun e W' => e = .returned (.bool x) ∧ Below W0.heap.size W0 W' :=
  (LowSame_any _ _ _ _ _ _ _ _ _ _ _ (hl.below h (Nat.le_refl _)) (hm.below h (Nat.le_refl _))).mono fun _ _ hh => ⟨by rw [hh.1, hx], h.trans (hh.below.mono h.size)⟩
theorem same_on {W0 : World} {a o : Req} {aw ab ow ob : Option Addr} {cw cb dw db : Nat} (hA : AskAt W0 W0.heap.size a aw cw ab cb) (hO : AskAt W0 W0.heap.size o ow dw ob db) {x : Bool} (hx : decide (a = o) = x) (W : World) (h : Below W0.heap.size W0 W) :
    Calls Try.prog 12 #[askV a aw cw ab cb, askV o ow dw ob db] W fun e W' => e = .returned (.bool x) ∧ Below W0.heap.size W0 W' :=
  (Same_any a o _ _ _ _ _ _ _ _ W (hA.below h) (hO.below h)).mono fun _ _ ⟨he, hb⟩ => ⟨by rw [he, hx], h.trans (hb.mono h.size)⟩

/-- Two rows of bytes compared: not even a draw. -/
theorem lowsame_still {a b : Option Addr} {n c k d : Nat} {l m : List UInt8} {B B2 : Nat} {W : World} (hl : Sl b8 W B a n c l) (hm : Sl b8 W B2 b k d m) {x : Bool} (hx : decide (l = m) = x) :
    Calls Try.prog 14 #[.slice a n c, .slice b k d] W fun e W' => e = .returned (.bool x) ∧ W' = W := by
  have h1 := hl.text (P := Try.prog) Try.underlying27 Try.underlying5 Try.underlying9
  have h2 := hm.text (P := Try.prog) Try.underlying27 Try.underlying5 Try.underlying9
  have H := Lib.hid hx
  clear hx
  go_enter Try.func14, Try.ntmps14
  go_wp2_with fail
  go_ret
  exact ⟨ret_bool ((str_eq l m).trans H.out), rfl⟩
theorem enters_low (args : Array Value) (w : World) : (callFunc 14 args).run Try.prog w = .ok (.enter 14 args) w := by
  have h := Try.func14
  unfold callFunc
  rw [Sem.run_bind]
  simp only [run_program, Result.andThen_ok, h]
  have e1 : (Try.f14.name == "runtime.NumGoroutine") = false := by kernel_rfl
  have e2 : Try.f14.body.isNone = false := by kernel_rfl
  rw [e1, e2]
  rfl
theorem Boxed.h1 {w w1 : World} {c1 c2 : Array Value} {T1 T2 : TypeId} (h : Boxed w c1 c2 T1 T2 w1) : w1.heap[w.heap.size]? = some (.cells c1 T1 (0, 0)) := by
  rw [Below.block h _ (by omega), Below.heap_alloc _ _ _ (by simp)]
  exact heap_alloc_new w _
theorem Boxed.h2 {w w1 : World} {c1 c2 : Array Value} {T1 T2 : TypeId} (h : Boxed w c1 c2 T1 T2 w1) : w1.heap[w.heap.size + 1]? = some (.cells c2 T2 (0, 0)) := by
  rw [Below.block h _ (by omega)]
  exact at_one w _ _
theorem Gives.all {o : Option (List UInt8)} {w w' : World} {e : Ending} (h : Gives o w e w') :
    ∃ x n c er, e = .returned (.tuple #[.slice x n c, .int .i64 er]) ∧ Sl b8 w' w'.heap.size x n c (o.getD []) ∧ Hid (er = if o.isSome = true then 0 else 12) ∧ Below w.heap.size w w' := by
  cases o with
  | none => exact ⟨none, 0, 0, 12, h.1, Sl.none_, rfl, h.2⟩
  | some b =>
    obtain ⟨a, c, he, hs, hb, _⟩ := h
    exact ⟨a, _, c, 0, he, hs, rfl, hb⟩
end Go.Proofs.Ytenfcpdoingdeaa.AskW
