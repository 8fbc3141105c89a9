/- A region that draws its order, walked once, in the text's order, over a class of worlds: an operation whose guard says no, a value that is the same in every such world, a call that answers the same in every such world and leaves one of them. Cheap in a large frame: nothing is simplified. -/
import Derived.Deep.Quiet
import Derived.Tactics
import Derived.Below
import Derived.Laws.Rows
import Derived.Laws.Small
namespace Go.Proofs.Ytamdpinfbadflaa.Mem
/-- The rest of a region, as a shut word (nothing lays it open by itself). -/
structure QP (P : Program) (ops : Array Oper) (C : World → Prop) (Q : Act → Prop) (l : List Oper) (a : Act) : Prop where
  out : wpQuiet P ops C Q l a
section
variable {P : Program} {ops : Array Oper} {C : World → Prop} {Q : Act → Prop} {a : Act} {o : Oper} {rest : List Oper} {w : World}
theorem QP.nil (h : Q a) : QP P ops C Q [] a := ⟨h⟩
theorem QP.skip (hw : Region.wanted o (yielded ops a.tmps) = false) (h : QP P ops C Q rest (a.put o.dst undef)) : QP P ops C Q (o :: rest) a := by
  refine ⟨?_⟩
  unfold wpQuiet
  rw [if_neg (by rw [hw]; decide)]
  exact h.out
theorem QP.val (v : Value) (hw : Region.wanted o (yielded ops a.tmps) = true) (hr : ∀ w, C w → (execOp a.eval o).run P w = .ok (.value v) w) (h : QP P ops C Q rest (a.put o.dst v)) : QP P ops C Q (o :: rest) a := by
  refine ⟨?_⟩
  unfold wpQuiet
  rw [if_pos hw]
  refine ⟨v, fun w hC => ?_, h.out⟩
  unfold Oper.quietAt
  rw [hr w hC]
  exact ⟨rfl, rfl⟩
theorem QP.call (f : FuncId) (args : Array Value) (v : Value) (hw : Region.wanted o (yielded ops a.tmps) = true) (hr : ∀ w, C w → (execOp a.eval o).run P w = .ok (.enter f args) w) (hc : ∀ w, C w → Calls P f args w fun e w' => e = .returned v ∧ C w') (h : QP P ops C Q rest (a.put o.dst v)) : QP P ops C Q (o :: rest) a := by
  refine ⟨?_⟩
  unfold wpQuiet
  rw [if_pos hw]
  refine ⟨v, fun w hC => ?_, h.out⟩
  unfold Oper.quietAt
  rw [hr w hC]
  exact ⟨rfl, hc w hC⟩
/-- The region, its list of operations behind a name. -/
theorem region_quiet {id : Nat} {Qx : Exit → Act → World → Prop} {l : List Oper} (C : World → Prop) (hm : P.follows .mixedOrders = true) (hB : Region.lexB .any l.toArray = true) (hC : C w.drew)
    (h : ∀ (ops : Array Oper) (Q' : Act → Prop), Go.RowKit.Hid (ops = l.toArray) → Go.RowKit.Hid (∀ a', (∀ w', C w' → Qx .normal a' w') → Q' a') → QP P ops C Q' l a) : (Code.region id l.toArray true).wp P Qx a w := by
  refine wp_region_quiet (C := C) hm hB hC ?_
  exact (h _ _ rfl (fun _ h => h)).out
theorem wantedq {tmps : Array Value} {j d : Nat} {want b : Bool} (hg : o.guard = some (j, want)) (hd : (ops[j]?).bind (·.dst) = some d) (ht : tmps[d]? = some (.bool b)) {x : Bool} (hx : (some b == some want) = x) : Region.wanted o (yielded ops tmps) = x := by
  subst hx
  unfold Region.wanted yielded
  rw [hg]
  simp only [hd, Option.bind_some, ht]
variable {ev : Operand → Value} {x y z : Operand} {T S U : TypeId} {v : Value}
theorem runq_move (ho : o.op = Op.move x) (hx : ev x = v) : (execOp ev o).run P w = .ok (.value v) w := by
  subst hx
  simp [execOp, ho, go_sem]
theorem runq_assign (ho : o.op = Op.assign x) (hx : ev x = v) : (execOp ev o).run P w = .ok (.value v) w := by
  subst hx
  simp [execOp, ho, go_sem]
theorem runq_pick {c : Bool} (ho : o.op = Op.pick x y z) (hx : ev x = .bool c) (hv : (if c = true then ev y else ev z) = v) : (execOp ev o).run P w = .ok (.value v) w := by
  subst hv
  simp [execOp, ho, hx, go_sem]
theorem runq_not {c d : Bool} (ho : o.op = Op.unOp .not T x) (hx : ev x = .bool c) (hd : (!c) = d) : (execOp ev o).run P w = .ok (.value (.bool d)) w := by
  subst hd
  simp [execOp, ho, hx, go_sem, Op.unary]
theorem runq_neq {k : IntKind} {p q : Int} (ho : o.op = Op.binOp .neq T x y S) (hx : ev x = .int k p) (hy : ev y = .int k q) {b : Bool} (hb : (p != q) = b) : (execOp ev o).run P w = .ok (.value (.bool b)) w := by
  subst hb
  simp [execOp, ho, hx, hy, go_sem]
theorem runq_eql {k : IntKind} {p q : Int} (ho : o.op = Op.binOp .eql T x y S) (hx : ev x = .int k p) (hy : ev y = .int k q) {b : Bool} (hb : (p == q) = b) : (execOp ev o).run P w = .ok (.value (.bool b)) w := by
  subst hb
  simp [execOp, ho, hx, hy, go_sem]
theorem runq_lss {k : IntKind} {p q : Int} (ho : o.op = Op.binOp .lss T x y S) (hx : ev x = .int k p) (hy : ev y = .int k q) {b : Bool} (hb : decide (p < q) = b) : (execOp ev o).run P w = .ok (.value (.bool b)) w := by
  subst hb
  simp [execOp, ho, hx, hy, go_sem]
theorem runq_gtr {k : IntKind} {p q : Int} (ho : o.op = Op.binOp .gtr T x y S) (hx : ev x = .int k p) (hy : ev y = .int k q) {b : Bool} (hb : decide (q < p) = b) : (execOp ev o).run P w = .ok (.value (.bool b)) w := by
  subst hb
  simp [execOp, ho, hx, hy, go_sem]
theorem runq_geq {k : IntKind} {p q : Int} (ho : o.op = Op.binOp .geq T x y S) (hx : ev x = .int k p) (hy : ev y = .int k q) {b : Bool} (hb : decide (q ≤ p) = b) : (execOp ev o).run P w = .ok (.value (.bool b)) w := by
  subst hb
  simp [execOp, ho, hx, hy, go_sem]
theorem runq_leq {k : IntKind} {p q : Int} (ho : o.op = Op.binOp .leq T x y S) (hx : ev x = .int k p) (hy : ev y = .int k q) {b : Bool} (hb : decide (p ≤ q) = b) : (execOp ev o).run P w = .ok (.value (.bool b)) w := by
  subst hb
  simp [execOp, ho, hx, hy, go_sem]
theorem runq_neqb {p q : Bool} (hT : P.underlying T = some .bool) (ho : o.op = Op.binOp .neq T x y S) (hx : ev x = .bool p) (hy : ev y = .bool q) {b : Bool} (hb : (p != q) = b) : (execOp ev o).run P w = .ok (.value (.bool b)) w := by
  subst hb
  simp [execOp, ho, hx, hy, hT, go_sem, bne]
theorem runq_eqlb {p q : Bool} (hT : P.underlying T = some .bool) (ho : o.op = Op.binOp .eql T x y S) (hx : ev x = .bool p) (hy : ev y = .bool q) {b : Bool} (hb : (p == q) = b) : (execOp ev o).run P w = .ok (.value (.bool b)) w := by
  subst hb
  simp [execOp, ho, hx, hy, hT, go_sem]
theorem runq_load_row {ty t : TypeId} {g : Nat} {cs : Array Value} {fr : Nat × Nat} {d : TypeDesc} (ho : o.op = Op.load ty x) (hx : ev x = .pointer (some ⟨g, 0, none⟩)) (hg : w.heap[g]? = some (.cells cs t fr))
    (hu : P.underlying ty = some d) (hd : (match d with | .struct _ | .array _ _ => true | _ => false) = true) (hi : (P.info? ty).map (·.size) = some cs.size) : (execOp ev o).run P w = .ok (.value (.agg cs)) w := by
  unfold execOp
  simp only [ho, hx, Instr.loadAt, Instr.sureAddr, Sem.run_bind, Sem.run_pure, Result.andThen_ok, run_loadVar_row w g t ty cs fr d hg hu hd hi]
theorem runq_load_int {p : Addr} {k : IntKind} (ho : o.op = Op.load T x) (hx : ev x = .pointer (some p)) (hc : w.cell? p = some v) (hT : P.underlying T = some (.int k)) : (execOp ev o).run P w = .ok (.value v) w := by
  have hagg : ∀ w, (isAgg T).run P w = .ok false w := fun w => by
    unfold isAgg
    rw [Sem.run_bind, run_underlying hT w]
    simp
  simp [execOp, ho, hx, hagg, hc, go_sem]
theorem runq_len {a : Option Addr} {n c : Nat} (hT : P.underlying T = some (.slice (P.elem T))) (ho : o.op = Op.call { callee := .builtin .len, args := #[x], argTypes := #[T] }) (hx : ev x = .slice a n c) : (execOp ev o).run P w = .ok (.value (.int .i64 (n : Int))) w := by
  simp [execOp, ho, hx, go_sem, run_len_slice _ T _ a n c hT]
theorem runq_indexAddr {e : TypeId} {b off n c : Nat} {k : IntKind} {i : Nat} (ho : o.op = Op.indexAddr T x y) (hT : P.underlying T = some (.slice e)) (hs : ∀ w, (sizeOf e).run P w = .ok 1 w) (hx : ev x = .slice (some ⟨b, off, none⟩) n c) (hy : ev y = .int k (i : Int)) (hi : i < n) :
    (execOp ev o).run P w = .ok (.value (.pointer (some ⟨b, off + i, none⟩))) w := by
  simp [execOp, ho, hx, hy, hT, hs, hi, go_sem]
end
end Go.Proofs.Ytamdpinfbadflaa.Mem
