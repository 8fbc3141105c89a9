/- Steps of a region whose operations but the last only read, one by one and cheap: an operation whose guard says no, a value that is known. -/
import Derived.StillTailTactics
import Derived.Tactics
import Derived.Below
import Derived.Laws.Rows
namespace Go.Proofs.Ytiecncnmmecjcaa.Mem
/-- The head of a region, as a shut word (nothing lays it open by itself). -/
structure HeadP (P : Program) (ops : Array Oper) (w : World) (Q : Act → Prop) (l : List Oper) (a : Act) : Prop where
  out : wpStill P ops w Q l a
section
variable {P : Program} {ops : Array Oper} {w : World} {Q : Act → Prop} {a : Act} {o : Oper} {rest : List Oper}
theorem HeadP.nil (h : Q a) : HeadP P ops w Q [] a := ⟨h⟩
theorem HeadP.skip (hw : Region.wanted o (yielded ops a.tmps) = false) (h : HeadP P ops w Q rest (a.put o.dst undef)) : HeadP P ops w Q (o :: rest) a := by
  refine ⟨?_⟩
  unfold wpStill
  rw [if_neg (by rw [hw]; decide)]
  exact h.out
theorem HeadP.val (v : Value) (hw : Region.wanted o (yielded ops a.tmps) = true) (hr : (execOp a.eval o).run P w = .ok (.value v) w) (h : HeadP P ops w Q rest (a.put o.dst v)) : HeadP P ops w Q (o :: rest) a := by
  refine ⟨?_⟩
  unfold wpStill
  rw [if_pos hw]
  unfold Oper.still
  rw [hr]
  exact ⟨rfl, h.out⟩
/-- A call whose callee does nothing but answer. -/
theorem HeadP.call (f : FuncId) (args : Array Value) (v : Value) (hw : Region.wanted o (yielded ops a.tmps) = true) (hr : (execOp a.eval o).run P w = .ok (.enter f args) w) (hc : Calls P f args w fun e w' => e = .returned v ∧ w' = w) (h : HeadP P ops w Q rest (a.put o.dst v)) : HeadP P ops w Q (o :: rest) a := by
  refine ⟨?_⟩
  unfold wpStill
  rw [if_pos hw]
  unfold Oper.still
  rw [hr]
  exact ⟨rfl, v, hc, h.out⟩
theorem run_neq {T S : TypeId} {k : IntKind} {ev : Operand → Value} {x y : Operand} {p q : Int} (ho : o.op = Op.binOp .neq T x y S) (hx : ev x = .int k p) (hy : ev y = .int k q) {b : Bool} (hb : (p != q) = b) :
    (execOp ev o).run P w = .ok (.value (.bool b)) w := by
  subst hb
  simp [execOp, ho, hx, hy, go_sem]
theorem run_move {ev : Operand → Value} {x : Operand} {v : Value} (ho : o.op = Op.move x) (hx : ev x = v) : (execOp ev o).run P w = .ok (.value v) w := by
  subst hx
  simp [execOp, ho, go_sem]
theorem run_pick {ev : Operand → Value} {x y z : Operand} {c : Bool} {v : Value} (ho : o.op = Op.pick x y z) (hx : ev x = .bool c) (hv : (if c = true then ev y else ev z) = v) : (execOp ev o).run P w = .ok (.value v) w := by
  subst hv
  simp [execOp, ho, hx, go_sem]
theorem run_load_row {ev : Operand → Value} {x : Operand} {ty t : TypeId} {g : Nat} {cs : Array Value} {fr : Nat × Nat} {d : TypeDesc} (ho : o.op = Op.load ty x) (hx : ev x = .pointer (some ⟨g, 0, none⟩)) (hg : w.heap[g]? = some (.cells cs t fr))
    (hu : P.underlying ty = some d) (hd : (match d with | .struct _ | .array _ _ => true | _ => false) = true) (hi : (P.info? ty).map (·.size) = some cs.size) : (execOp ev o).run P w = .ok (.value (.agg cs)) w := by
  unfold execOp
  simp only [ho, hx, Instr.loadAt, Instr.sureAddr, Sem.run_bind, Sem.run_pure, Result.andThen_ok, run_loadVar_row w g t ty cs fr d hg hu hd hi]
/-- A region whose first n operations only read: these one by one, whatever the rest of it is; then the rest in the text's order. -/
theorem region_head {id : Nat} {Qx : Exit → Act → World → Prop} {l : List Oper} (n : Nat) (hm : P.follows .mixedOrders = true) (hB : Region.lexTailB .any l.toArray n = true)
    (h : ∀ (ops : Array Oper) (Q' : Act → Prop), Go.RowKit.Hid (ops = l.toArray) → Go.RowKit.Hid (∀ a', wpList P l.toArray Qx (l.drop n) a' w.drew → Q' a') → HeadP P ops w.drew Q' (l.take n) a) : (Code.region id l.toArray true).wp P Qx a w := by
  refine wp_region_still_tail n hm hB ?_
  exact (h _ _ rfl (fun _ h => h)).out
theorem wanted_at {tmps : Array Value} {j d : Nat} {want b : Bool} (hg : o.guard = some (j, want)) (hd : (ops[j]?).bind (·.dst) = some d) (ht : tmps[d]? = some (.bool b)) {x : Bool} (hx : (some b == some want) = x) : Region.wanted o (yielded ops tmps) = x := by
  subst hx
  unfold Region.wanted yielded
  rw [hg]
  simp only [hd, Option.bind_some, ht]
end
end Go.Proofs.Ytiecncnmmecjcaa.Mem
