/- The table of functions: a map that is made, and asked. -/
import Derived.Test.YtamdpinfbadflaaAskA
import Derived.Maps.OwnOps
open Go.RowKit
namespace Go.Proofs.Ytamdpinfbadflaa.AskW
open AskM Mem

/-- The table's entries, the first k of them. -/
def tabRows : List (Nat × Row) := [(1, ⟨2000, 0, 0, false⟩), (2, ⟨2000, 0, 0, false⟩), (3, ⟨125, 0, 0, false⟩), (4, ⟨125, 0, 0, false⟩), (5, ⟨0, 1, 0, false⟩), (6, ⟨0, 0, 1, false⟩), (15, ⟨1968, 1968, 0, false⟩), (16, ⟨123, 0, 123, false⟩), (23, ⟨125, 0, 121, true⟩)]
def entsOf : List (Nat × Row) → Nat → List MapEntry
  | [], _ => []
  | (c, F) :: r, i => ⟨.int .u8 (c : Int), rowV F, i⟩ :: entsOf r (i + 1)
def entA (k : Nat) : Array MapEntry := (entsOf (tabRows.take k) 0).toArray

theorem run_check (b : Bool) (c : Nat) (hc : c < 256) (w : World) : (Instr.checkKey b 10000 5 (.int .u8 (c : Int))).run Try.prog w = .ok () w :=
  (Maps.int_keyed Try.underlying5).check w b (Maps.keyOf_int_mk Try.underlying5 (by simp [Lit.wf, IntKind.min, IntKind.max, IntKind.bits, IntKind.signed]; omega))
theorem run_find (c : Int) (es : List MapEntry) (r : Option (Nat × Value)) (hf : Instr.findNow (.int .u8) (.int .u8 c) es 0 = some r) (w : World) :
    (Instr.findKey 5 (.int .u8 c) es).run Try.prog w = .ok r w := by
  simp [Instr.findKey, go_sem, hf]
theorem push_set {α : Type} (a : Array α) (x y : α) : (a.push x).setIfInBounds a.size y = a.push y := by
  apply Array.ext
  · simp
  · intro i h1 h2
    simp at h1 h2
    rw [Array.getElem_setIfInBounds (by simpa using h1)]
    simp only [Array.getElem_push]
    split <;> split <;> first | rfl | omega
/-- A key that is new, put into a map that has just been made. -/
theorem run_put (w : World) (es : Array MapEntry) (n : Nat) (c : Nat) (hc : c < 256) (v : Value) (es' : Array MapEntry)
    (hf : Instr.findNow (.int .u8) (.int .u8 (c : Int)) es.toList 0 = some none) (he : es' = es.push ⟨.int .u8 (c : Int), v, n⟩) :
    (Instr.mapUpdate 87 (.map (some w.heap.size)) (.int .u8 (c : Int)) v).run Try.prog (w.alloc (.map es n)) = .ok () (w.alloc (.map es' (n + 1))) := by
  subst he
  have hg := MapKept.run_getObj_map (P := Try.prog) (MapKept.heap_alloc w (.map es n)).1
  simp [Instr.mapUpdate, go_sem, hg, run_check _ _ hc, run_find _ _ _ hf]
  rw [MapKept.run_setObj_map _ (MapKept.heap_alloc w (.map es n)).1]
  unfold World.alloc
  simp only [push_set]
/-- The row that is found, and whether there is one. -/
def found (c : Nat) : Value := match rowN c with
  | some F => .tuple #[rowV F, .bool true]
  | none => .tuple #[.agg #[.int .i64 0, .int .i64 0, .int .i64 0, .bool false], .bool false]
theorem find_row (c : Nat) : ∃ r, Instr.findNow (.int .u8) (.int .u8 (c : Int)) (entA 9).toList 0 = some r ∧ r.map (·.2) = (rowN c).map rowV := by
  by_cases h1 : c = 1; · subst h1; exact ⟨_, rfl, rfl⟩
  by_cases h2 : c = 2; · subst h2; exact ⟨_, rfl, rfl⟩
  by_cases h3 : c = 3; · subst h3; exact ⟨_, rfl, rfl⟩
  by_cases h4 : c = 4; · subst h4; exact ⟨_, rfl, rfl⟩
  by_cases h5 : c = 5; · subst h5; exact ⟨_, rfl, rfl⟩
  by_cases h6 : c = 6; · subst h6; exact ⟨_, rfl, rfl⟩
  by_cases h7 : c = 15; · subst h7; exact ⟨_, rfl, rfl⟩
  by_cases h8 : c = 16; · subst h8; exact ⟨_, rfl, rfl⟩
  by_cases h9 : c = 23; · subst h9; exact ⟨_, rfl, rfl⟩
  refine ⟨none, ?_, by unfold rowN; simp [h1, h2, h3, h4, h5, h6, h7, h8, h9]⟩
  simp only [entA, entsOf, tabRows, List.take, List.toList_toArray, Instr.findNow, Instr.sameNow]
  have e1 : ((c : Int) == 1) = false := by simp; omega
  have e2 : ((c : Int) == 2) = false := by simp; omega
  have e3 : ((c : Int) == 3) = false := by simp; omega
  have e4 : ((c : Int) == 4) = false := by simp; omega
  have e5 : ((c : Int) == 5) = false := by simp; omega
  have e6 : ((c : Int) == 6) = false := by simp; omega
  have e15 : ((c : Int) == 15) = false := by simp; omega
  have e16 : ((c : Int) == 16) = false := by simp; omega
  have e23 : ((c : Int) == 23) = false := by simp; omega
  simp [e1, e2, e3, e4, e5, e6, e15, e16, e23]
theorem run_ask (w : World) (g n : Nat) (hg : w.heap[g]? = some (.map (entA 9) n)) (c : Nat) (hc : c < 256) :
    (Instr.lookup 87 (.map (some g)) (.int .u8 (c : Int)) true).run Try.prog w = .ok (found c) w := by
  have hg := MapKept.run_getObj_map (P := Try.prog) hg
  obtain ⟨r, hr, hm⟩ := find_row c
  have hz : ∀ w : World, (zeroValue 85).run Try.prog w = .ok (.agg #[.int .i64 0, .int .i64 0, .int .i64 0, .bool false]) w := fun _ => by kernel_rfl
  simp [Instr.lookup, go_sem, hg, run_check _ _ hc, run_find _ _ _ hr]
  unfold found
  cases hF : rowN c with
  | none =>
    rw [hF] at hm
    obtain rfl : r = none := by cases r <;> simp at hm ⊢
    simp [go_sem, hz]
  | some F =>
    rw [hF] at hm
    obtain ⟨⟨i, v⟩, rfl⟩ : ∃ x, r = some x := by cases r <;> simp at hm ⊢
    simp at hm
    subst hm
    simp [go_sem]
/-- The table is made anew. -/
theorem table_any (w : World) :
    Calls Try.prog 40 #[] w fun e w' => e = .returned (.map (some w.heap.size)) ∧ w' = w.alloc (.map (entA 9) 9) := by
  have hmm := @run_makeMap Try.prog
  have i1 : ∀ w : World, (Instr.mapUpdate 87 (.map (some w.heap.size)) (.int .u8 1) (.agg #[.int .i64 2000, .int .i64 0, .int .i64 0, .bool false])).run Try.prog (w.alloc (.map #[] 0)) = .ok () (w.alloc (.map (entA 1) 1)) := fun w => run_put w #[] 0 1 (by omega) _ (entA 1) (by kernel_rfl) (by kernel_rfl)
  have i2 : ∀ w : World, (Instr.mapUpdate 87 (.map (some w.heap.size)) (.int .u8 2) (.agg #[.int .i64 2000, .int .i64 0, .int .i64 0, .bool false])).run Try.prog (w.alloc (.map (entA 1) 1)) = .ok () (w.alloc (.map (entA 2) 2)) := fun w => run_put w (entA 1) 1 2 (by omega) _ (entA 2) (by kernel_rfl) (by kernel_rfl)
  have i3 : ∀ w : World, (Instr.mapUpdate 87 (.map (some w.heap.size)) (.int .u8 3) (.agg #[.int .i64 125, .int .i64 0, .int .i64 0, .bool false])).run Try.prog (w.alloc (.map (entA 2) 2)) = .ok () (w.alloc (.map (entA 3) 3)) := fun w => run_put w (entA 2) 2 3 (by omega) _ (entA 3) (by kernel_rfl) (by kernel_rfl)
  have i4 : ∀ w : World, (Instr.mapUpdate 87 (.map (some w.heap.size)) (.int .u8 4) (.agg #[.int .i64 125, .int .i64 0, .int .i64 0, .bool false])).run Try.prog (w.alloc (.map (entA 3) 3)) = .ok () (w.alloc (.map (entA 4) 4)) := fun w => run_put w (entA 3) 3 4 (by omega) _ (entA 4) (by kernel_rfl) (by kernel_rfl)
  have i5 : ∀ w : World, (Instr.mapUpdate 87 (.map (some w.heap.size)) (.int .u8 5) (.agg #[.int .i64 0, .int .i64 1, .int .i64 0, .bool false])).run Try.prog (w.alloc (.map (entA 4) 4)) = .ok () (w.alloc (.map (entA 5) 5)) := fun w => run_put w (entA 4) 4 5 (by omega) _ (entA 5) (by kernel_rfl) (by kernel_rfl)
  have i6 : ∀ w : World, (Instr.mapUpdate 87 (.map (some w.heap.size)) (.int .u8 6) (.agg #[.int .i64 0, .int .i64 0, .int .i64 1, .bool false])).run Try.prog (w.alloc (.map (entA 5) 5)) = .ok () (w.alloc (.map (entA 6) 6)) := fun w => run_put w (entA 5) 5 6 (by omega) _ (entA 6) (by kernel_rfl) (by kernel_rfl)
  have i7 : ∀ w : World, (Instr.mapUpdate 87 (.map (some w.heap.size)) (.int .u8 15) (.agg #[.int .i64 1968, .int .i64 1968, .int .i64 0, .bool false])).run Try.prog (w.alloc (.map (entA 6) 6)) = .ok () (w.alloc (.map (entA 7) 7)) := fun w => run_put w (entA 6) 6 15 (by omega) _ (entA 7) (by kernel_rfl) (by kernel_rfl)
  have i8 : ∀ w : World, (Instr.mapUpdate 87 (.map (some w.heap.size)) (.int .u8 16) (.agg #[.int .i64 123, .int .i64 0, .int .i64 123, .bool false])).run Try.prog (w.alloc (.map (entA 7) 7)) = .ok () (w.alloc (.map (entA 8) 8)) := fun w => run_put w (entA 7) 7 16 (by omega) _ (entA 8) (by kernel_rfl) (by kernel_rfl)
  have i9 : ∀ w : World, (Instr.mapUpdate 87 (.map (some w.heap.size)) (.int .u8 23) (.agg #[.int .i64 125, .int .i64 0, .int .i64 121, .bool true])).run Try.prog (w.alloc (.map (entA 8) 8)) = .ok () (w.alloc (.map (entA 9) 9)) := fun w => run_put w (entA 8) 8 23 (by omega) _ (entA 9) (by kernel_rfl) (by kernel_rfl)
  go_enter Try.func40, Try.ntmps40
  go_wp2_with fail
  go_ret
  exact ⟨rfl, rfl⟩
end Go.Proofs.Ytamdpinfbadflaa.AskW
