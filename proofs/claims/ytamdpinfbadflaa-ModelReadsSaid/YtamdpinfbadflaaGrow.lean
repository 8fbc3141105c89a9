/- Appending to a slice of the call's own: the block that is written is that slice's, or a new one. -/
import Derived.Test.YtamdpinfbadflaaMem
open Go.RowKit
namespace Go.Proofs.Ytamdpinfbadflaa.Mem

/-- From w and the slice v to w' and v': nothing but v's block is written, and the block of v' is that one, or new. -/
structure Grew (w : World) (v : Value) (w' : World) (v' : Value) : Prop where
  grown : w.grownBy w' v.ownBlock
  new : ∀ k, v'.ownBlock = some k → v.ownBlock = some k ∨ w.heap.size ≤ k
theorem Grew.refl (w : World) (v : Value) : Grew w v w v := ⟨World.grownBy.refl _ _, fun _ h => .inl h⟩
theorem Grew.trans {w w1 w2 : World} {v v1 v2 : Value} (h : Grew w v w1 v1) (h2 : Grew w1 v1 w2 v2) : Grew w v w2 v2 := by
  have a := h.grown; have b := h2.grown
  refine ⟨⟨b.os.trans a.os, b.tape.trans a.tape, b.output.trans a.output, Nat.le_trans a.size b.size, fun k hk hne => ?_⟩, fun k hk => ?_⟩
  · refine (b.block k (Nat.lt_of_lt_of_le hk a.size) (fun e => ?_)).trans (a.block k hk hne)
    rcases h.new k e.symm with h3 | h3
    · exact hne h3.symm
    · omega
  · rcases h2.new k hk with h3 | h3
    · exact h.new k h3
    · exact .inr (Nat.le_trans a.size h3)
theorem Grew.alloc {w w' : World} {v v' : Value} {o : Obj} (h : Grew (w.alloc o) v w' v') : Grew w v w' v' := by
  have a := h.grown
  refine ⟨⟨a.os, a.tape, a.output, by have := a.size; simp at this; omega, fun k hk hne => ?_⟩, fun k hk => ?_⟩
  · rw [a.block k (by simp; omega) hne]
    exact Below.heap_alloc _ _ _ hk
  · rcases h.new k hk with h3 | h3
    · exact .inl h3
    · simp at h3; exact .inr (by omega)
theorem Grew.size {w w' : World} {v v' : Value} (h : Grew w v w' v') : w.heap.size ≤ w'.heap.size := h.grown.size
theorem Grew.below {B : Nat} {w0 w w' : World} {v v' : Value} (h : Below B w0 w) (hg : Grew w v w' v') (hB : B ≤ w.heap.size) (hv : ∀ k, v.ownBlock = some k → B ≤ k) : Below B w0 w' := h.grown hg.grown hB hv
theorem Sl.grew {α : Type} {f : α → Value} {w w' : World} {v v' : Value} {B n c : Nat} {a : Option Addr} {l : List α} (h : Sl f w B a n c l) (hg : Grew w v w' v') (hne : ∀ x : Addr, a = some x → v.ownBlock ≠ some x.block) : Sl f w' B a n c l := by
  obtain ⟨h1, h2, h3, h5, h4⟩ := h
  refine ⟨h1, h2, h3, h5, fun hn => ?_⟩
  obtain ⟨b, off, e, hb, hc⟩ := h4 hn
  exact ⟨b, off, e, hb, fun i x hx => hg.grown.cell (hc i x hx) (fun e2 => hne _ e e2.symm)⟩

theorem run_append_grew {P : Program} {w : World} (base : Nat) (t ty e : TypeId) (i : TypeInfo) (z : Value) (bytes : Nat) (ht : P.underlying t = some (.slice e)) (hi : P.info? e = some i) (hz : i.zero = some z)
    (hsize : i.size = 1) (hby : i.bytes = bytes) (hzs : z.cells.size = 1) (v : Value) (n : Nat) (xs : List Value) (hown : w.ownsRow base e 1 v n xs)
    (a : Addr) (m c : Nat) (news : List Value) (hl : news.length = m) (hnews : ∀ j u, news[j]? = some u → w.cell? (a.add j) = some u) (h1 : ∀ u ∈ news, u.oneCell' = true)
    (h63 : n + m ≤ maxLen) (hbytes : (n + m) * bytes ≤ 140737488355328) (hbase : base ≤ w.heap.size) :
    ∃ v' w', (Builtin.append_ #[t, t] ty #[v, .slice (some a) m c]).run P w = .ok v' w' ∧ w'.ownsRow base e 1 v' (n + m) (xs ++ news) ∧ Grew w v w' v' := by
  obtain ⟨v', w', hr, ho, hg, hn⟩ := run_append_own (P := P) w base t ty e i z 1 bytes ht hi hz hsize hby hzs (by omega) v n xs hown a m c news (by omega) hnews h1 h63 hbytes hbase
  refine ⟨v', w', hr, ho, hg, fun k hk => ?_⟩
  subst hby
  have hm : n + m ≤ 9223372036854775807 := by simp only [maxLen] at h63; omega
  have hxl := hown.1
  rcases hown.2 with ⟨rfl, rfl⟩ | ⟨g, cap, cur, rfl, hbg, hgg, hnc, hcm, hcs, htake⟩
  · by_cases h0 : m = 0
    · rw [hn.2 ⟨rfl, h0⟩] at hk; cases hk
    · have h2 := run_append_nil (P := P) w t ty e i z ht hi hz a m c news (by rw [hsize]; omega) hnews (by omega) (by omega) (by rw [Nat.zero_add] at hbytes; omega)
      rw [hr] at h2
      injection h2 with h2 _
      subst h2
      injection hk with hk
      exact .inr (by simp at hk; omega)
  · by_cases hroom : n + m ≤ cap
    · have h2 := run_append_room (P := P) w t ty e i ht hi g n cap cur hgg a m c news (by rw [hsize]; omega) hnews h1 hroom (by rw [hsize]; omega)
      rw [hr] at h2
      injection h2 with h2 _
      subst h2
      exact .inl hk
    · have holds : ∀ j u, xs[j]? = some u → w.cell? ((⟨g, 0, none⟩ : Addr).add j) = some u := hown.cells (g := g) rfl
      have h2 := run_append_grow (P := P) w t ty e i z ht hi hz ⟨g, 0, none⟩ n cap xs (by rw [hsize]; omega) holds a m c news (by rw [hsize]; omega) hnews (by omega) (by omega) (growslice_fits (by omega) hbytes)
      rw [hr] at h2
      injection h2 with h2 _
      subst h2
      injection hk with hk
      exact .inr (by simp at hk; omega)
section
variable {P : Program} {w : World} {ops : Array Oper} {rest : List Oper} {o : Oper} {act : Act} {Q : Exit → Act → World → Prop}
/-- 'append(out, x, ..)', out the call's own, some values behind it, just built. -/
theorem wpList_append_vals (hgd : o.guard = none) (s x : Operand) (t : TypeId) (ho : o.op = .call { callee := .builtin .append, args := #[s, x], argTypes := #[t, t] })
    (base : Nat) (e : TypeId) (i : TypeInfo) (z : Value) (bytes : Nat) (ht : P.underlying t = some (.slice e)) (hi : P.info? e = some i) (hz : i.zero = some z) (hsize : i.size = 1) (hby : i.bytes = bytes) (hzs : z.cells.size = 1)
    (v : Value) (n : Nat) (xs : List Value) (hs : act.eval s = v) (hown : w.ownsRow base e 1 v n xs) (ad : Addr) (m c : Nat) (news : List Value) (hx : act.eval x = .slice (some ad) m c) (hl : news.length = m)
    (hnews : ∀ j u, news[j]? = some u → w.cell? (ad.add j) = some u) (h1 : ∀ u ∈ news, u.oneCell' = true)
    (h63 : n + m ≤ maxLen) (hbytes : (n + m) * bytes ≤ 140737488355328) (hbase : base ≤ w.heap.size)
    (h : ∀ v' w', w'.ownsRow base e 1 v' (n + m) (xs ++ news) → Grew w v w' v' → wpList P ops Q rest (act.put o.dst v') w') : wpList P ops Q (o :: rest) act w := by
  refine wpList_plain hgd fun K hK => ?_
  obtain ⟨v', w', hr, h2, h3⟩ := run_append_grew (P := P) (w := w) base t o.type e i z bytes ht hi hz hsize hby hzs v n xs hown ad m c news hl hnews h1 h63 hbytes hbase
  unfold Oper.wp execOp
  simp only [ho, resolve, invoke, builtin, Sem.run_bind, Sem.run_pure, Result.andThen_ok, List.map_toArray, List.map_cons, List.map_nil, hs, hx, hr]
  exact hK _ _ (h v' w' h2 h3)
/-- 'append(out, s...)', out the call's own, s any slice that reads. -/
theorem wpList_append_list {α : Type} {f : α → Value} (hf : ∀ x, (f x).oneCell' = true)
    (hgd : o.guard = none) (s x : Operand) (t : TypeId) (ho : o.op = .call { callee := .builtin .append, args := #[s, x], argTypes := #[t, t] })
    (base : Nat) (e : TypeId) (i : TypeInfo) (z : Value) (bytes : Nat) (ht : P.underlying t = some (.slice e)) (hi : P.info? e = some i) (hz : i.zero = some z) (hsize : i.size = 1) (hby : i.bytes = bytes) (hzs : z.cells.size = 1)
    (v : Value) (n : Nat) (xs : List Value) (hs : act.eval s = v) (hown : w.ownsRow base e 1 v n xs) (A : Option Addr) (m c : Nat) (hx : act.eval x = .slice A m c) {B : Nat} {l : List α} (hS : Sl f w B A m c l)
    (h63 : n + m ≤ maxLen) (hbytes : (n + m) * bytes ≤ 140737488355328) (hbase : base ≤ w.heap.size)
    (h : ∀ v' w', w'.ownsRow base e 1 v' (n + m) (xs ++ l.map f) → Grew w v w' v' → wpList P ops Q rest (act.put o.dst v') w') : wpList P ops Q (o :: rest) act w := by
  cases A with
  | none =>
    obtain rfl := hS.nil_cap
    obtain rfl : m = 0 := by have := hS.nle; omega
    obtain rfl : l = [] := List.eq_nil_of_length_eq_zero hS.len
    refine wpList_append_own_none hgd s x t ho base e i 1 ht hi v n xs hs hown hx (h v w (by simpa using hown) (Grew.refl _ _))
  | some ad =>
    refine wpList_append_vals hgd s x t ho base e i z bytes ht hi hz hsize hby hzs v n xs hs hown ad m c (l.map f) hx (by simpa using hS.len) (fun j u hu => ?_) (fun u hu => ?_) h63 hbytes hbase h
    · rw [List.getElem?_map] at hu
      obtain ⟨y, hy, rfl⟩ := Option.map_eq_some_iff.1 hu
      have hj : j < l.length := by
        rcases Nat.lt_or_ge j l.length with h | h
        · exact h
        · rw [List.getElem?_eq_none h] at hy; cases hy
      obtain ⟨b, off, e1, _, hc⟩ := hS.cells (by have := hS.len; omega)
      injection e1 with e1
      subst e1
      rw [← hc j y hy]
      by_cases h0 : j = 0 <;> simp [Addr.add, h0]
    · obtain ⟨y, _, rfl⟩ := List.mem_map.1 hu
      exact hf y
end
/-- A row just built is the call's own. -/
theorem own_new (w : World) (cs : Array Value) (e : TypeId) {base : Nat} (hb : base ≤ w.heap.size) {n : Nat} (hn : n = cs.size) (hm : n ≤ 1000000) : (w.alloc (.cells cs e)).ownsRow base e 1 (.slice (some ⟨w.heap.size, 0, none⟩) n n) n cs.toList := by
  subst hn
  refine ⟨by simp, .inr ⟨w.heap.size, cs.size, cs, rfl, hb, heap_alloc_new w _, Nat.le_refl _, by unfold maxLen; omega, by simp, List.take_of_length_le (by simp)⟩⟩

theorem Sl.norm {α : Type} {f : α → Value} {w : World} {B n c : Nat} {a : Option Addr} {l : List α} (h : Sl f w B a n c l) : Sl f w B a l.length c l := by
  have := h.len
  subst this
  exact h
theorem Sl.set {α : Type} {f : α → Value} {w : World} {B n c : Nat} {a : Option Addr} {l : List α} (h : Sl f w B a n c l) {g i : Nat} {v : Value} (hne : ∀ x : Addr, a = some x → x.block ≠ g) : Sl f (w.setCell ⟨g, i, none⟩ v) B a n c l := by
  obtain ⟨h1, h2, h3, h5, h4⟩ := h
  refine ⟨h1, h2, h3, h5, fun hn => ?_⟩
  obtain ⟨b, off, e, hb, hc⟩ := h4 hn
  refine ⟨b, off, e, hb, fun i x hx => ?_⟩
  rw [World.cell?_setCell_other _ _ _ _ (fun h => ?_)]
  · exact hc i x hx
  · injection h with h _ _
    exact hne _ e h.symm
/-- The call makes a slice that holds l, in a block of its own (or in none), and writes nothing that was there. -/
def Fresh {α : Type} (f : α → Value) (l : List α) (w : World) (e : Ending) (w' : World) : Prop :=
  ∃ a c, e = .returned (.slice a l.length c) ∧ Sl f w' w'.heap.size a l.length c l ∧ Below w.heap.size w w' ∧ ∀ x : Addr, a = some x → w.heap.size ≤ x.block
section
variable {α : Type} {f : α → Value} {l : List α} {w w1 w' : World} {e : Ending}
theorem Fresh.makes (h : Fresh f l w e w') : Makes f l w e w' := by
  obtain ⟨a, c, rfl, hs, hb, _⟩ := h
  exact ⟨a, c, rfl, hs, hb⟩
theorem Fresh.mk {v : Value} {a : Option Addr} {n c : Nat} (hv : v = .slice a n c) (h : Sl f w' w'.heap.size a n c l) (hb : Below w.heap.size w w') (hx : ∀ x : Addr, a = some x → w.heap.size ≤ x.block) : Fresh f l w (.returned v) w' := by
  obtain rfl := h.len
  exact ⟨a, c, by rw [hv], h, hb, hx⟩
theorem Fresh.of_own {v : Value} {n base : Nat} {T : TypeId} (h : w'.ownsRow base T 1 v n (l.map f)) (hbase : w.heap.size ≤ base) (hb : Below w.heap.size w w') : Fresh f l w (.returned v) w' := by
  obtain ⟨a, c, rfl, hs⟩ := Sl.of_own h
  refine Fresh.mk rfl hs hb fun x hx => ?_
  subst hx
  have := (h.lt x.block rfl).1
  omega
theorem Fresh.on (hb : Below w.heap.size w w1) (h : Fresh f l w1 e w') : Fresh f l w e w' := by
  obtain ⟨a, c, rfl, hs, hb2, hx⟩ := h
  exact ⟨a, c, rfl, hs, hb.trans (hb2.mono hb.size), fun x h => Nat.le_trans hb.size (hx x h)⟩
end
end Go.Proofs.Ytamdpinfbadflaa.Mem
