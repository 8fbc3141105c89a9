/- Slices that are read, over any program: what their cells hold, and what keeps it so. -/
import Derived.WalkKit
import Derived.Laws.CopyOwn
import Derived.Laws.BytesArg
import Derived.Laws.AppendOwnNone
import Derived.Deep.Draws
import Derived.Lib.Hide
open Go.RowKit
namespace Go.Proofs.Ytamdpinfbadflaa.Mem

/-- A byte's, a register's value. -/
abbrev b8 (x : UInt8) : Value := .int .u8 (x.toNat : Int)
abbrev b16 (x : UInt16) : Value := .int .u16 (x.toNat : Int)

/-- The slice at a, of length n and capacity c, holds l; its block is below B. -/
def Sl {α : Type} (f : α → Value) (w : World) (B : Nat) (a : Option Addr) (n c : Nat) (l : List α) : Prop :=
  l.length = n ∧ n ≤ c ∧ c ≤ maxLen ∧ (a = none → c = 0) ∧ (0 < n → ∃ b off, a = some ⟨b, off, none⟩ ∧ b < B ∧ ∀ i x, l[i]? = some x → w.cell? ⟨b, off + i, none⟩ = some (f x))

section
variable {α : Type} {f : α → Value} {w w' : World} {B B' n c : Nat} {a : Option Addr} {l : List α}
theorem Sl.len (h : Sl f w B a n c l) : l.length = n := h.1
theorem Sl.nle (h : Sl f w B a n c l) : n ≤ c := h.2.1
theorem Sl.cle (h : Sl f w B a n c l) : c ≤ maxLen := h.2.2.1
theorem Sl.nil_cap (h : Sl f w B none n c l) : c = 0 := h.2.2.2.1 rfl
theorem Sl.cells (h : Sl f w B a n c l) (hn : 0 < n) : ∃ b off, a = some ⟨b, off, none⟩ ∧ b < B ∧ ∀ i x, l[i]? = some x → w.cell? ⟨b, off + i, none⟩ = some (f x) := h.2.2.2.2 hn
theorem Sl.none_ : Sl f w B none 0 0 [] := ⟨rfl, Nat.le_refl _, by unfold maxLen; omega, fun _ => rfl, fun h => absurd h (by omega)⟩
theorem Sl.at_ {k : Nat} (h : Sl f w B a n c l) (hk : k < n) : ∃ b off x, a = some ⟨b, off, none⟩ ∧ b < B ∧ l[k]? = some x ∧ w.cell? ⟨b, off + k, none⟩ = some (f x) := by
  obtain ⟨b, off, e, hb, hc⟩ := h.cells (by omega)
  have hx : l[k]? = some (l[k]'(by have := h.len; omega)) := List.getElem?_eq_getElem (by have := h.len; omega)
  exact ⟨b, off, _, e, hb, hx, hc k _ hx⟩
theorem Sl.keep (h : Sl f w B a n c l) (hk : ∀ p : Addr, p.block < B → w'.cell? p = w.cell? p) : Sl f w' B a n c l := by
  refine ⟨h.1, h.2.1, h.2.2.1, h.2.2.2.1, fun hn => ?_⟩
  obtain ⟨b, off, e, hb, hc⟩ := h.cells hn
  exact ⟨b, off, e, hb, fun i x hx => (hk ⟨b, off + i, none⟩ hb).trans (hc i x hx)⟩
theorem Sl.more (h : Sl f w B a n c l) (hB : B ≤ B') : Sl f w B' a n c l := by
  refine ⟨h.1, h.2.1, h.2.2.1, h.2.2.2.1, fun hn => ?_⟩
  obtain ⟨b, off, e, hb, hc⟩ := h.cells hn
  exact ⟨b, off, e, Nat.lt_of_lt_of_le hb hB, hc⟩
theorem Sl.below (h : Sl f w B a n c l) (hb : Below B' w w') (hB : B ≤ B') : Sl f w' B a n c l := h.keep fun _ hp => hb.cell (by omega)
theorem Sl.take_ {k : Nat} (h : Sl f w B a n c l) (hk : k ≤ n) : Sl f w B a k c (l.take k) := by
  obtain ⟨h1, h2, h3, h5, h4⟩ := h
  refine ⟨by rw [List.length_take]; omega, by omega, h3, h5, fun hn => ?_⟩
  obtain ⟨b, off, e, hb, hc⟩ := h4 (by omega)
  refine ⟨b, off, e, hb, fun i x hx => hc i x ?_⟩
  rw [List.getElem?_take] at hx
  split at hx
  · exact hx
  · cases hx
theorem Sl.from_ {k : Nat} (h : Sl f w B a n c l) (hk : k ≤ n) : Sl f w B (if c = k then a else a.map (·.add k)) (n - k) (c - k) (l.drop k) := by
  obtain ⟨h1, h2, h3, h5, h4⟩ := h
  refine ⟨by rw [List.length_drop]; omega, by omega, by omega, fun h => ?_, fun hn => ?_⟩
  · split at h
    · omega
    · have := h5 (by simpa using h)
      omega
  · obtain ⟨b, off, rfl, hb, hc⟩ := h4 (by omega)
    rw [if_neg (by omega)]
    refine ⟨b, off + k, ?_, hb, fun i x hx => ?_⟩
    · by_cases h0 : k = 0 <;> simp [Addr.add, h0]
    · rw [List.getElem?_drop] at hx
      have := hc _ x hx
      rwa [← Nat.add_assoc] at this
/-- What the call's own row holds is such a slice. -/
theorem Sl.of_own {base : Nat} {e : TypeId} {v : Value} (h : w.ownsRow base e 1 v n (l.map f)) : ∃ a c, v = .slice a n c ∧ Sl f w w.heap.size a n c l := by
  have hl : l.length = n := by have := h.1; simpa using this
  have hlt := h.lt
  have hcells := @World.ownsRow.cells _ _ _ _ _ _ _ h
  rcases h.2 with ⟨rfl, rfl⟩ | ⟨g, cap, cur, rfl, hb, hh, hn, hm, hs, ht⟩
  · exact ⟨none, 0, rfl, hl, Nat.le_refl _, by unfold maxLen; omega, fun _ => rfl, fun h => absurd h (by omega)⟩
  · refine ⟨_, cap, rfl, hl, hn, hm, (fun h => by cases h), fun _ => ⟨g, 0, rfl, (hlt g rfl).2, fun i x hx => ?_⟩⟩
    have h1 := hcells (g := g) rfl i (f x) (by rw [List.getElem?_map, hx]; rfl)
    rw [Nat.zero_add]
    have ha : (⟨g, 0, none⟩ : Addr).add i = ⟨g, i, none⟩ := by by_cases h0 : i = 0 <;> simp [Addr.add, h0]
    rwa [ha] at h1
end

/-- Bytes as a text. -/
def str (l : List UInt8) : ByteArray := ⟨l.toArray⟩
theorem str_inj {l m : List UInt8} : str l = str m ↔ l = m := by
  refine ⟨fun h => ?_, fun h => by rw [h]⟩
  have h1 : l.toArray = m.toArray := by injection h
  simpa using h1
theorem strOfNums_bytes (l : List UInt8) : strOfNums (l.map fun x => (x.toNat : Int)) = str l := by
  unfold strOfNums str
  congr 2
  rw [List.map_map]
  conv => rhs; rw [← List.map_id l]
  refine List.map_congr_left fun x _ => ?_
  simp
theorem Sl.text {P : Program} {w : World} {B n c : Nat} {a : Option Addr} {l : List UInt8} (h : Sl b8 w B a n c l) {src e dst : TypeId} (hs : P.underlying src = some (.slice e)) (he : P.underlying e = some (.int .u8)) (hd : P.underlying dst = some .string) :
    (convert src dst (.slice a n c)).run P w = .ok (.string (str l)) w := by
  rcases Nat.eq_zero_or_pos n with rfl | hn
  · obtain rfl : l = [] := List.eq_nil_of_length_eq_zero h.1
    cases a with
    | none => exact run_convert_bytes_nil w src e hs he 0 c dst hd
    | some x =>
      rw [run_convert_bytes_string w src dst e _ 0 c hs he hd]
      have hl : (loadCells x 0).run P w = .ok (([] : List Int).map (Value.int .u8)).toArray w := by simpa using run_loadCells_list (P := P) w x [] (fun j v hj => by simp at hj)
      rw [run_bytesToString w x 0 c [] hl]
      rfl
  · obtain ⟨b, off, rfl, _, hc⟩ := h.cells hn
    have h1 := run_convert_bytes_arg (P := P) w src e hs he b off n c (l.map fun x => (x.toNat : Int)) (by rw [List.length_map, h.1]) (fun i hi => by
      have hx : l[i]? = some (l[i]'(by rw [h.1]; exact hi)) := List.getElem?_eq_getElem _
      rw [hc i _ hx]
      simp [List.getD, hx]) dst hd
    rwa [strOfNums_bytes] at h1

/-! ### Rows that the call makes itself -/
theorem madeCells_one (z : Value) (n : Nat) : madeCells #[z] n = (List.replicate n z).toArray := by
  apply Array.ext
  · simp [madeCells]
  · intro i h1 h2
    simp [madeCells, Nat.mod_one]
section
variable {P : Program} {w : World} {ops : Array Oper} {rest : List Oper} {o : Oper} {act : Act} {Q : Exit → Act → World → Prop}
/-- 'make([]T, n, m)', T of one cell. -/
theorem wpList_make_row (hg : o.guard = none) (x y : Operand) (t : TypeId) (hop : o.op = Op.makeSlice t x y) (e : TypeId) (i : TypeInfo) (z : Value) (bytes : Nat)
    (h1 : P.underlying t = some (.slice e)) (h2 : P.info? e = some i) (h3 : i.zero = some z) (h4 : i.size = 1) (h5 : i.bytes = bytes) (h6 : z.cells = #[z])
    (kl kc : IntKind) (N M : Int) (n m : Nat) (hx : act.eval x = .int kl N) (hy : act.eval y = .int kc M) (hN : N = (n : Int)) (hM : M = (m : Int)) (hnm : n ≤ m) (hb : m * bytes ≤ 281474976710656) (hm : m ≤ 9223372036854775807)
    (hK : ∀ w', Hid (w'.heap[w.heap.size]? = some (.cells (List.replicate m z).toArray e (0, 0))) → Below w.heap.size w w' → w'.heap.size = w.heap.size + 1 → wpList P ops Q rest (act.put o.dst (.slice (some ⟨w.heap.size, 0, none⟩) n m)) w') :
    wpList P ops Q (o :: rest) act w := by
  refine wpList_plain hg fun K hK' => ?_
  subst hN hM h5
  have hr := run_make (P := P) w t e i z h1 h2 h3 kl kc (n : Int) (m : Int) (by omega) (by omega) (by
    have h : ((m * i.bytes : Nat) : Int) ≤ 281474976710656 := by omega
    rwa [Int.natCast_mul, Int.mul_comm] at h) (by omega)
  simp only [Int.toNat_natCast] at hr
  unfold Oper.wp
  simp [execOp, hop, hx, hy, hr, Result.andThen]
  refine hK' _ _ (hK _ ?_ ((Below.refl _ _).alloc (Nat.le_refl _) _) (by simp))
  show _ = _
  rw [heap_alloc_new, h6, madeCells_one, h4, Nat.mul_one]
/-- 'copy(out, s)' into the head of such a row, which is no longer than what comes. -/
theorem wpList_copy_head {α : Type} {f : α → Value} (hf : ∀ x, (f x).oneCell' = true) (hgd : o.guard = none) (d s : Operand) (dT sT : TypeId)
    (ho : o.op = .call { callee := .builtin .copy, args := #[d, s], argTypes := #[dT, sT] }) (e : TypeId) (hu : P.underlying dT = some (.slice e)) (hsz : (P.info? e).map (·.size) = some 1)
    (g m dc : Nat) (hd : act.eval d = .slice (some ⟨g, 0, none⟩) m dc) (sp : Option Addr) (n c : Nat) (hs : act.eval s = .slice sp n c) {B : Nat} {l : List α} (hS : Sl f w B sp n c l) (hmn : m ≤ n)
    {z : Value} {k : Nat} (hg : w.heap[g]? = some (.cells (List.replicate k z).toArray e (0, 0))) (hmk : m ≤ k)
    (h : ∀ w', Hid (w'.heap[g]? = some (.cells ((l.take m).map f ++ List.replicate (k - m) z).toArray e (0, 0))) → Below g w w' → wpList P ops Q rest (act.put o.dst (goInt m)) w') :
    wpList P ops Q (o :: rest) act w := by
  have hT := hS.take_ hmn
  have hl : ((l.take m).map f).length = m := by rw [List.length_map, hT.len]
  refine wpList_copy_splice hgd d s dT sT ho e hu hsz _ _ m dc n c hd hs g 0 (List.replicate k z) e hg ((l.take m).map f) (by rw [hl]; exact (Nat.min_eq_right hmn).symm) (fun h0 => ?_) (by rw [hl, List.length_replicate]; omega)
    (fun v hv => by obtain ⟨x, _, rfl⟩ := List.mem_map.1 hv; exact hf x) g w (Below.refl _ _) (Nat.le_refl _) (fun w' hw' hb => ?_)
  · rw [hl] at h0
    obtain ⟨b, off, rfl, _, hc⟩ := hT.cells h0
    refine ⟨rfl, _, rfl, fun j v hj => ?_⟩
    rw [List.getElem?_map] at hj
    obtain ⟨x, hx, rfl⟩ := Option.map_eq_some_iff.1 hj
    rw [← hc j x hx]
    by_cases h0 : j = 0 <;> simp [Addr.add, h0]
  · rw [hl]
    refine h w' ?_ hb
    have h1 := hw'.out
    rw [show splice (List.replicate k z) 0 ((l.take m).map f) = (l.take m).map f ++ List.replicate (k - m) z by unfold splice; rw [hl]; simp] at h1
    exact h1
end
/-- A row known whole, as a slice of its first n cells. -/
theorem own_of_row {w : World} {g : Nat} {e : TypeId} {cs : List Value} (h : w.heap[g]? = some (.cells cs.toArray e (0, 0))) {n : Nat} (hn : n ≤ cs.length) (hm : cs.length ≤ maxLen) {base : Nat} (hb : base ≤ g) :
    w.ownsRow base e 1 (.slice (some ⟨g, 0, none⟩) n cs.length) n (cs.take n) :=
  ⟨by rw [List.length_take]; omega, .inr ⟨g, cs.length, cs.toArray, rfl, hb, h, hn, hm, by simp, by simp⟩⟩

/-- 'append(out, s...)', out the call's own, s any slice that reads. -/
theorem wpList_append_sl {P : Program} {w : World} {ops : Array Oper} {rest : List Oper} {o : Oper} {act : Act} {Q : Exit → Act → World → Prop} {α : Type} {f : α → Value} (hf : ∀ x, (f x).oneCell' = true)
    (hgd : o.guard = none) (s x : Operand) (t : TypeId) (ho : o.op = .call { callee := .builtin .append, args := #[s, x], argTypes := #[t, t] })
    (base : Nat) (e : TypeId) (i : TypeInfo) (z : Value) (bytes : Nat) (ht : P.underlying t = some (.slice e)) (hi : P.info? e = some i) (hz : i.zero = some z) (hsize : i.size = 1) (hby : i.bytes = bytes) (hzs : z.cells.size = 1)
    (v : Value) (n : Nat) (xs : List Value) (hs : act.eval s = v) (hown : w.ownsRow base e 1 v n xs) (A : Option Addr) (m c : Nat) (hx : act.eval x = .slice A m c) {B : Nat} {l : List α} (hS : Sl f w B A m c l)
    (h63 : n + m ≤ maxLen) (hbytes : (n + m) * bytes ≤ 140737488355328) (hbase : base ≤ w.heap.size)
    (h : ∀ v' w', w'.ownsRow base e 1 v' (n + m) (xs ++ l.map f) → w.grownBy w' v.ownBlock → wpList P ops Q rest (act.put o.dst v') w') : wpList P ops Q (o :: rest) act w := by
  cases A with
  | none =>
    obtain rfl := hS.nil_cap
    obtain rfl : m = 0 := by have := hS.nle; omega
    obtain rfl : l = [] := List.eq_nil_of_length_eq_zero hS.len
    refine wpList_append_own_none hgd s x t ho base e i 1 ht hi v n xs hs hown hx (h v w (by simpa using hown) (World.grownBy.refl _ _))
  | some ad =>
    refine wpList_append_own w hgd s x t ho base e i z 1 bytes ht hi hz hsize hby hzs (by omega) v n xs hs hown ad m c (l.map f) hx (by simpa using hS.len) (fun j u hu => ?_) (fun u hu => ?_) h63 hbytes hbase (fun v' w' h1 h2 _ => h v' w' h1 h2)
    · rw [List.getElem?_map] at hu
      obtain ⟨y, hy, rfl⟩ := Option.map_eq_some_iff.1 hu
      have hj : j < l.length := by
        rcases Nat.lt_or_ge j l.length with h | h
        · exact h
        · rw [List.getElem?_eq_none h] at hy; cases hy
      obtain ⟨b, off, e1, _, hc⟩ := hS.cells (by have := hS.len; omega)
      injection e1 with e1
      subst e1
      rw [← hc j y hy]
      by_cases h0 : j = 0 <;> simp [Addr.add, h0]
    · obtain ⟨y, _, rfl⟩ := List.mem_map.1 hu
      exact hf y
/-- 'append(out, x, ..)', out the call's own, some values behind it, just built. -/
theorem wpList_append_new {P : Program} {w : World} {ops : Array Oper} {rest : List Oper} {o : Oper} {act : Act} {Q : Exit → Act → World → Prop}
    (hgd : o.guard = none) (s x : Operand) (t : TypeId) (ho : o.op = .call { callee := .builtin .append, args := #[s, x], argTypes := #[t, t] })
    (base : Nat) (e : TypeId) (i : TypeInfo) (z : Value) (bytes : Nat) (ht : P.underlying t = some (.slice e)) (hi : P.info? e = some i) (hz : i.zero = some z) (hsize : i.size = 1) (hby : i.bytes = bytes) (hzs : z.cells.size = 1)
    (v : Value) (n : Nat) (xs : List Value) (hs : act.eval s = v) (hown : w.ownsRow base e 1 v n xs) (ad : Addr) (m c : Nat) (news : List Value) (hx : act.eval x = .slice (some ad) m c) (hl : news.length = m)
    (hnews : ∀ j u, news[j]? = some u → w.cell? (ad.add j) = some u) (h1 : ∀ u ∈ news, u.oneCell' = true)
    (h63 : n + m ≤ maxLen) (hbytes : (n + m) * bytes ≤ 140737488355328) (hbase : base ≤ w.heap.size)
    (h : ∀ v' w', w'.ownsRow base e 1 v' (n + m) (xs ++ news) → w.grownBy w' v.ownBlock → wpList P ops Q rest (act.put o.dst v') w') : wpList P ops Q (o :: rest) act w :=
  wpList_append_own w hgd s x t ho base e i z 1 bytes ht hi hz hsize hby hzs (by omega) v n xs hs hown ad m c news hx (by rw [hl, Nat.mul_one]) hnews h1 h63 hbytes hbase (fun v' w' h1 h2 _ => h v' w' h1 h2)
/-- A row just built, cell by cell. -/
theorem new_cells (w : World) (cs : Array Value) (e : TypeId) : ∀ j u, cs.toList[j]? = some u → (w.alloc (.cells cs e)).cell? ((⟨w.heap.size, 0, none⟩ : Addr).add j) = some u := by
  intro j u hu
  have ha : (⟨w.heap.size, 0, none⟩ : Addr).add j = ⟨w.heap.size, j, none⟩ := by by_cases h0 : j = 0 <;> simp [Addr.add, h0]
  rw [ha, cell_of_row _ _ _ _ _ _ (heap_alloc_new w _)]
  simpa using hu

/-- A slice just built. -/
theorem Sl.new {α : Type} {f : α → Value} (w : World) (cs : Array Value) (e : TypeId) (fr : Nat × Nat) (l : List α) (n : Nat) (hcs : cs.toList = l.map f) (hn : l.length = n) (hm : n ≤ 1000000) :
    Sl f (w.alloc (.cells cs e fr)) (w.alloc (.cells cs e fr)).heap.size (some ⟨w.heap.size, 0, none⟩) n n l := by
  refine ⟨hn, Nat.le_refl _, by unfold maxLen; omega, (fun h => by cases h), fun _ => ⟨w.heap.size, 0, rfl, by simp, fun i x hx => ?_⟩⟩
  rw [Nat.zero_add, cell_of_row _ _ _ _ _ _ (heap_alloc_new w _), ← Array.getElem?_toList, hcs, List.getElem?_map, hx]
  rfl
/-- On from a world that has one block more. -/
theorem below_next {B : Nat} {w w1 w2 : World} {o : Obj} (h : Below B w w1) (hB : B ≤ w1.heap.size) (h2 : Below (w1.alloc o).heap.size (w1.alloc o) w2) : Below B w w2 :=
  (h.alloc hB o).trans (h2.mono (by simp; omega))
theorem Sl.next {α : Type} {f : α → Value} {w1 w2 : World} {B n c : Nat} {a : Option Addr} {l : List α} (h : Sl f w1 B a n c l) (hB : B ≤ w1.heap.size) {o : Obj} (h2 : Below (w1.alloc o).heap.size (w1.alloc o) w2) : Sl f w2 B a n c l :=
  (h.keep fun p hp => World.cell?_alloc_lt w1 o p (by omega)).below h2 (by simp; omega)
theorem Sl.alloc {α : Type} {f : α → Value} {w1 : World} {B n c : Nat} {a : Option Addr} {l : List α} (h : Sl f w1 B a n c l) (hB : B ≤ w1.heap.size) (o : Obj) : Sl f (w1.alloc o) B a n c l :=
  h.keep fun p hp => World.cell?_alloc_lt w1 o p (by omega)

theorem below_drawn {B : Nat} {w w' : World} (h : Below B w w') (k : Nat) : Below B w (w'.drewN k) := ⟨h.os, h.tape, h.output, h.size, h.block⟩
theorem below_ahead {B : Nat} {w w' : World} {k : Nat} (h : Below B (w.drewN k) w') : Below B w w' := ⟨h.os, h.tape, h.output, h.size, h.block⟩
theorem Sl.drawn {α : Type} {f : α → Value} {w : World} {B n c : Nat} {a : Option Addr} {l : List α} (h : Sl f w B a n c l) (k : Nat) : Sl f (w.drewN k) B a n c l := h

/-- The call makes a slice that holds l, and writes nothing that was there. -/
def Makes {α : Type} (f : α → Value) (l : List α) (w : World) (e : Ending) (w' : World) : Prop :=
  ∃ a c, e = .returned (.slice a l.length c) ∧ Sl f w' w'.heap.size a l.length c l ∧ Below w.heap.size w w'
theorem Makes.mk {α : Type} {f : α → Value} {l : List α} {w w' : World} {v : Value} {a : Option Addr} {n c : Nat} (hv : v = .slice a n c) (h : Sl f w' w'.heap.size a n c l) (hb : Below w.heap.size w w') : Makes f l w (.returned v) w' := by
  obtain rfl := h.len
  exact ⟨a, c, by rw [hv], h, hb⟩
theorem Makes.of_own {α : Type} {f : α → Value} {l : List α} {w w' : World} {v : Value} {n base : Nat} {e : TypeId} (h : w'.ownsRow base e 1 v n (l.map f)) (hb : Below w.heap.size w w') : Makes f l w (.returned v) w' := by
  obtain ⟨a, c, hv, hs⟩ := Sl.of_own h
  exact Makes.mk hv hs hb
/-- The call answers v, and writes nothing that was there. -/
def Says (v : Value) (w : World) (e : Ending) (w' : World) : Prop := e = .returned v ∧ Below w.heap.size w w'
theorem Says.mk {v : Value} {w w' : World} (h : Below w.heap.size w w') : Says v w (.returned v) w' := ⟨rfl, h⟩
end Go.Proofs.Ytamdpinfbadflaa.Mem
