/- Calls whose answers are known, in whatever world behind; rows of bytes compared; cells just built. -/
import Derived.Test.YtamdpinfbadflaaAskAwake
open Go.RowKit
namespace Go.Proofs.Ytamdpinfbadflaa.AskW
open AskM Mem

theorem few_true {n m : Nat} (h1 : n ≤ 200) (h2 : m ≤ 2100) : (decide (n ≤ 200) && decide (m ≤ 2100)) = true := by simp [h1, h2]
theorem few_false {n m : Nat} (h : ¬ (n ≤ 200 ∧ m ≤ 2100)) : (decide (n ≤ 200) && decide (m ≤ 2100)) = false := by
  rw [Bool.and_eq_false_iff]; simp; omega
theorem Boxed.h1 {w w1 : World} {c1 c2 : Array Value} {T1 T2 : TypeId} (h : Boxed w c1 c2 T1 T2 w1) : w1.heap[w.heap.size]? = some (.cells c1 T1 (0, 0)) := by
  rw [Below.block h _ (by omega), Below.heap_alloc _ _ _ (by simp)]
  exact heap_alloc_new w _
theorem Boxed.h2 {w w1 : World} {c1 c2 : Array Value} {T1 T2 : TypeId} (h : Boxed w c1 c2 T1 T2 w1) : w1.heap[w.heap.size + 1]? = some (.cells c2 T2 (0, 0)) := by
  rw [Below.block h _ (by omega)]
  exact at_one w _ _
theorem Gives.all {o : Option (List UInt8)} {w w' : World} {e : Ending} (h : Gives o w e w') :
    ∃ x n c er, e = .returned (.tuple #[.slice x n c, .int .i64 er]) ∧ Sl b8 w' w'.heap.size x n c (o.getD []) ∧ Hid (er = if o.isSome = true then 0 else 12) ∧ Below w.heap.size w w' := by
  cases o with
  | none => exact ⟨none, 0, 0, 12, h.1, Sl.none_, rfl, h.2⟩
  | some b =>
    obtain ⟨a, c, he, hs, hb, _⟩ := h
    exact ⟨a, _, c, 0, he, hs, rfl, hb⟩
end Go.Proofs.Ytamdpinfbadflaa.AskW
