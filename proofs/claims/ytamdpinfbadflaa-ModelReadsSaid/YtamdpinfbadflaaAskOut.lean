/- A request that is put into a result's cell. -/
import Derived.Test.YtamdpinfbadflaaAskRead
import Derived.Test.YtamdpinfbadflaaAskRight
import Derived.Test.YtamdpinfbadflaaAskEq
open Go.RowKit
namespace Go.Proofs.Ytamdpinfbadflaa.AskW
open AskM Mem

/-- Six fields are stored, one by one. -/
def setAll (W : World) (g : Nat) (f b m t ws bs : Value) : World :=
  ((((((W.setCell ⟨g, 0, none⟩ f).setCell ⟨g, 1, none⟩ b).setCell ⟨g, 2, none⟩ m).setCell ⟨g, 3, none⟩ t).setCell ⟨g, 4, none⟩ ws).setCell ⟨g, 5, none⟩ bs)
/-- The block g is a request's. -/
def AskBlock (W : World) (g : Nat) : Prop := ∃ f b m t ws bs : Value, W.heap[g]? = some (.cells #[f, b, m, t, ws, bs] 31 (0, 0))
section
variable {W W' : World} {g : Nat} {f b m t ws bs : Value}
theorem setAll_heap (h : AskBlock W g) : (setAll W g f b m t ws bs).heap[g]? = some (.cells #[f, b, m, t, ws, bs] 31 (0, 0)) := by
  obtain ⟨f', b', m', t', ws', bs', h⟩ := h
  unfold setAll
  have h0 := heap_setCell_same _ _ 0 _ _ f h
  have h1 := heap_setCell_same _ _ 1 _ _ b h0
  have h2 := heap_setCell_same _ _ 2 _ _ m h1
  have h3 := heap_setCell_same _ _ 3 _ _ t h2
  have h4 := heap_setCell_same _ _ 4 _ _ ws h3
  exact heap_setCell_same _ _ 5 _ _ bs h4
theorem setAll_below {B : Nat} {w : World} (h : Below B w W) (hg : B ≤ g) : Below B w (setAll W g f b m t ws bs) := by
  unfold setAll
  exact (((((h.setCell hg _).setCell hg _).setCell hg _).setCell hg _).setCell hg _).setCell hg _
theorem setAll_size : (setAll W g f b m t ws bs).heap.size = W.heap.size := by unfold setAll; simp [World.size_setCell]
theorem setAll_sl {α : Type} {q : α → Value} {n c : Nat} {a : Option Addr} {l : List α} (h : Sl q W W.heap.size a n c l) (hne : ∀ x : Addr, a = some x → x.block ≠ g) :
    Sl q (setAll W g f b m t ws bs) (setAll W g f b m t ws bs).heap.size a n c l := by
  rw [setAll_size]
  unfold setAll
  exact (((((h.set hne).set hne).set hne).set hne).set hne).set hne
theorem AskBlock.below {B : Nat} (h : AskBlock W g) (hb : Below B W W') (hg : g < B) : AskBlock W' g := by
  obtain ⟨f', b', m', t', ws', bs', h⟩ := h
  exact ⟨f', b', m', t', ws', bs', (hb.block g hg).trans h⟩
theorem AskBlock.cell (h : AskBlock W g) (i : Nat) (hi : i < 6) : ∃ v, W.cell? ⟨g, i, none⟩ = some v := by
  obtain ⟨f', b', m', t', ws', bs', h⟩ := h
  rw [cell_of_row _ _ i _ _ _ h]
  exact ⟨_, Array.getElem?_eq_getElem (by simpa using hi)⟩
theorem AskBlock.frozen (h : AskBlock W g) (i : Nat) : W.frozen? ⟨g, i, none⟩ = false := by
  obtain ⟨f', b', m', t', ws', bs', h⟩ := h
  exact frozen_of_row _ _ i _ _ h
end
theorem results_cell_row_tmp {P : Program} {fn : Func} {p u : Tmp} {ty : TypeId} (h : fn.results = #[.cell p ty, .tmp u]) (tmps : Array Value) (w : World) (g : Nat) (t : TypeId) (cs : Array Value) (fr : Nat × Nat) (d : TypeDesc)
    (hp : tmps.getD p undef = .pointer (some ⟨g, 0, none⟩)) (hg : w.heap[g]? = some (.cells cs t fr))
    (hu : P.underlying ty = some d) (hd : (match d with | .struct _ | .array _ _ => true | _ => false) = true) (hi : (P.info? ty).map (·.size) = some cs.size) (v : Value) (hv : tmps.getD u undef = v) :
    (results fn tmps).run P w = .ok (.tuple #[.agg cs, v]) w := by
  have hp' : tmps[p]?.getD undef = .pointer (some ⟨g, 0, none⟩) := by simpa using hp
  have hv' : tmps[u]?.getD undef = v := by simpa using hv
  simp [results, h, hp', hv', asAddr, run_loadVar_row w g t ty cs fr d hg hu hd hi]

/-- The bytes of a function of the table. -/
theorem read_any {x : Nat} {F : Row} (hF : rowN x = some F) (a : Option Addr) (n c : Nat) (l : List UInt8) (w : World) (hS : Sl b8 w w.heap.size a n c l) (hn : n ≤ 253) (h1 : 1 ≤ n) :
    Calls Try.prog 59 #[rowV F, .slice a n c] w (Asks (readN F l) w) := by
  rcases rowN_cases hF with ⟨_, rfl⟩ | ⟨_, rfl⟩ | ⟨_, rfl⟩ | ⟨_, rfl⟩ | ⟨_, rfl⟩ | ⟨_, rfl⟩ | ⟨_, rfl⟩
  · exact read_reads a n c l w hS hn h1
  · exact read_words a n c l w hS hn h1
  · exact read_bit a n c l w hS hn h1
  · exact read_word a n c l w hS hn h1
  · exact read_bits a n c l w hS hn h1
  · exact read_list a n c l w hS hn h1
  · exact read_swap a n c l w hS hn h1

/-- The call answers the request, or an empty one, and whether there is one; nothing that was there is written. -/
def Parsed (o : Option Req) (w : World) (e : Ending) (w' : World) : Prop :=
  ∃ aw cw ab cb, e = .returned (.tuple #[askV (o.getD (bare 0)) aw cw ab cb, .int .i64 (if o.isSome = true then 0 else 12)]) ∧ AskAt w' w'.heap.size (o.getD (bare 0)) aw cw ab cb ∧ Below w.heap.size w w' ∧ ∀ x : Addr, aw = some x ∨ ab = some x → w.heap.size ≤ x.block
theorem parsed_none {o : Option Req} {w w' : World} (ho : o = none) (h : Below w.heap.size w w') : Parsed o w (.returned (.tuple #[.agg #[.int .u8 0, .int .u16 0, .int .u16 0, .int .u16 0, .slice none 0 0, .slice none 0 0], .int .i64 12])) w' := by
  subst ho
  exact ⟨none, 0, none, 0, rfl, ⟨Sl.none_, Sl.none_⟩, h, fun x hx => by rcases hx with hx | hx <;> cases hx⟩
theorem parsed_some {o : Option Req} {q : Req} {w w' : World} (ho : o = some q) {aw ab : Option Addr} {cw cb : Nat} (hA : AskAt w' w'.heap.size q aw cw ab cb) (h : Below w.heap.size w w') (hx : ∀ x : Addr, aw = some x ∨ ab = some x → w.heap.size ≤ x.block) : Parsed o w (.returned (.tuple #[askV q aw cw ab cb, .int .i64 0])) w' := by
  subst ho
  exact ⟨aw, cw, ab, cb, rfl, hA, h, hx⟩
end Go.Proofs.Ytamdpinfbadflaa.AskW
