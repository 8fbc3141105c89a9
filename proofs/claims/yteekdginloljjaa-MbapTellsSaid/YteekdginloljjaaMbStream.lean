/- However a stream comes in parts, it tells the same frames. -/
import Derived.Test.YteekdginloljjaaMbLawWrong
open Go.RowKit
namespace Go.Proofs.Yteekdginloljjaa.MbW
open MbM Mem

theorem rowM_get {es : List Fm} {j : Nat} {u : Value} (h : (rowM es)[j]? = some u) : ∃ i r e, j = i * 3 + r ∧ r < 3 ∧ es[i]? = some e ∧ (fmC e)[r]? = some u := by
  induction es generalizing j with
  | nil => simp [rowM] at h
  | cons y es ih =>
    have e : rowM (y :: es) = fmC y ++ rowM es := rfl
    rw [e] at h
    by_cases hj : j < 3
    · rw [List.getElem?_append_left (by simpa using hj)] at h
      exact ⟨0, j, y, by omega, hj, rfl, h⟩
    · rw [List.getElem?_append_right (by simp; omega)] at h
      obtain ⟨i, r, e', h1, h2, h3, h4⟩ := ih h
      simp at h1
      exact ⟨i + 1, r, e', by omega, h2, by simpa using h3, h4⟩
theorem rowM_length (es : List Fm) : (rowM es).length = es.length * 3 := by
  induction es with
  | nil => rfl
  | cons y es ih =>
    show (fmC y ++ rowM es).length = _
    rw [List.length_append, ih, List.length_cons]
    simp; omega
theorem rowM_append (es fs : List Fm) : rowM (es ++ fs) = rowM es ++ rowM fs := by simp [rowM]
/-- 'append(out, s...)', out the call's own frames, s a row of frames, as it runs. -/
theorem run_append_frs {P : Program} {w : World} (base : Nat) (t ty e : TypeId) (i : TypeInfo) (z : Value) (bytes : Nat) (ht : P.underlying t = some (.slice e)) (hi : P.info? e = some i) (hz : i.zero = some z)
    (hsize : i.size = 3) (hby : i.bytes = bytes) (hzs : z.cells.size = 3) (v : Value) (n : Nat) (xs : List Value) (hown : w.ownsRow base e 3 v n xs) (A : Option Addr) (m c : Nat) {B : Nat} {es : List Fm} (hS : FrsAt w B A m c es) (hnil : A = none → c = 0)
    (h63 : n + m ≤ maxLen) (hbytes : (n + m) * bytes ≤ 140737488355328) (hbase : base ≤ w.heap.size) :
    ∃ v' w', (Builtin.append_ #[t, t] ty #[v, .slice A m c]).run P w = .ok v' w' ∧ w'.ownsRow base e 3 v' (n + m) (xs ++ rowM es) ∧ Grew w v w' v' := by
  cases A with
  | none =>
    obtain rfl := hnil rfl
    obtain rfl : m = 0 := by have := hS.2.1; omega
    obtain rfl : es = [] := List.eq_nil_of_length_eq_zero hS.1
    exact ⟨v, w, run_append_owned_none (P := P) (w := w) base t ty e i 3 ht hi v n xs hown, by simpa [rowM] using hown, Grew.refl _ _⟩
  | some ad =>
    refine run_append_grewN (P := P) (w := w) base t ty e i z 3 bytes ht hi hz hsize hby hzs (by omega) v n xs hown ad m c (rowM es) (by rw [rowM_length, hS.1]) (fun j u hu => ?_) (fun u hu => ?_) h63 hbytes hbase
    · obtain ⟨k, r, f, rfl, hr, hf, hu2⟩ := rowM_get hu
      have hk : k < m := by rw [← hS.1]; exact (List.getElem?_eq_some_iff.1 hf).1
      obtain ⟨b, off, e1, _, hc⟩ := hS.2.2.2.1 (by omega)
      injection e1 with e1
      subst e1
      obtain ⟨g0, g1, g2⟩ := hc k f hf
      have hadd : (⟨b, off, none⟩ : Addr).add (k * 3 + r) = ⟨b, off + k * 3 + r, none⟩ := by by_cases h0 : k * 3 + r = 0 <;> simp [Addr.add, h0, Nat.add_assoc] <;> omega
      rw [hadd]
      rcases (show r = 0 ∨ r = 1 ∨ r = 2 by omega) with rfl | rfl | rfl
      · simp at hu2; subst hu2; exact g0
      · simp at hu2; subst hu2; exact g1
      · simp at hu2; subst hu2; exact g2
    · obtain ⟨f, _, hf⟩ := List.mem_flatMap.1 hu
      simp at hf
      rcases hf with rfl | rfl | rfl <;> rfl
theorem step_append_frs {P : Program} {w : World} {ops : Array Oper} {o : Oper} {a : Act} {K : Act → World → Prop} {Q : Exit → Act → World → Prop} {E : Prop} (hgd : o.guard = none) (s x : Operand) (t : TypeId)
    (ho : o.op = .call { callee := .builtin .append, args := #[s, x], argTypes := #[t, t] })
    (base : Nat) (e : TypeId) (i : TypeInfo) (z : Value) (bytes : Nat) (ht : P.underlying t = some (.slice e)) (hi : P.info? e = some i) (hz : i.zero = some z) (hsize : i.size = 3) (hby : i.bytes = bytes) (hzs : z.cells.size = 3)
    (v : Value) (n : Nat) (xs : List Value) (hs : a.eval s = v) (hown : w.ownsRow base e 3 v n xs) (A : Option Addr) (m c : Nat) (hx : a.eval x = .slice A m c) {B : Nat} {es : List Fm} (hS : FrsAt w B A m c es) (hnil : A = none → c = 0)
    (h63 : n + m ≤ maxLen) (hbytes : (n + m) * bytes ≤ 140737488355328) (hbase : base ≤ w.heap.size)
    (h : ∀ v' w', w'.ownsRow base e 3 v' (n + m) (xs ++ rowM es) → Grew w v w' v' → K (a.put o.dst v') w') :
    if Region.wanted o (yielded ops a.tmps) = true then Oper.wp P o a w K Q else E := by
  rw [if_pos (by simp [Region.wanted, hgd])]
  obtain ⟨v', w', hr, h2, h3⟩ := run_append_frs (P := P) (w := w) base t o.type e i z bytes ht hi hz hsize hby hzs v n xs hown A m c hS hnil h63 hbytes hbase
  unfold Oper.wp execOp
  simp only [ho, resolve, invoke, builtin, Sem.run_bind, Sem.run_pure, Result.andThen_ok, List.map_toArray, List.map_cons, List.map_nil, hs, hx, hr]
  exact h v' w' h2 h3
/-- A part of the stream: what is told of what was left and this part, and what is left then. -/
theorem stream_part {G K : List Fr} (hK : ∀ x ∈ K, Right x) {B L : List UInt8} {k nn : Nat} (hL : L ++ B.drop k = flat K) {m : List Fr} {s : List UInt8} (hc : Cuts (L ++ (B.drop k).take nn) m s) :
    begunB s = true ∧ first s = none ∧ ∃ K', G ++ K = (G ++ m) ++ K' ∧ (∀ x ∈ K', Right x) ∧ s ++ B.drop (k + nn) = flat K' := by
  have h1 : (L ++ (B.drop k).take nn) ++ B.drop (k + nn) = flat K := by
    rw [← hL, List.append_assoc]
    congr 1
    have h2 := List.take_append_drop nn (B.drop k)
    rw [List.drop_drop] at h2
    exact h2
  obtain ⟨h2, K', h3, h4, h5⟩ := stream_step hK h1 hc
  exact ⟨h2, (cuts_iff.1 hc).2.2, K', by rw [h3, List.append_assoc], h4, h5⟩
/-- The bytes of frames lie in other blocks than a value's own. -/
def Apart (G : List Fm) (v : Value) : Prop := ∀ e ∈ G, ∀ y : Addr, e.ap = some y → v.ownBlock ≠ some y.block
/-- Frames, each with its bytes. -/
def Pdus (w : World) (G : List Fm) : Prop := ∀ e ∈ G, 0 < e.x.pdu.length ∧ Sl b8 w w.heap.size e.ap e.x.pdu.length e.cp e.x.pdu
theorem Pdus.lt {w : World} {G : List Fm} (h : Pdus w G) : ∀ e ∈ G, ∀ y : Addr, e.ap = some y → y.block < w.heap.size := fun e he y hy => by
  obtain ⟨h0, hs⟩ := h e he
  obtain ⟨b, off, e1, hb, _⟩ := hs.cells h0
  rw [hy] at e1; injection e1 with e1; subst e1; exact hb
theorem Pdus.below {w w' : World} {G : List Fm} (h : Pdus w G) (hb : Below w.heap.size w w') : Pdus w' G := fun e he => ⟨(h e he).1, ((h e he).2.below hb (Nat.le_refl _)).more hb.size⟩
theorem Pdus.grew {w w' : World} {v v' : Value} {G : List Fm} (hp : Pdus w G) (hg : Grew w v w' v') (ha : Apart G v) : Pdus w' G := fun e he => ⟨(hp e he).1, ((hp e he).2.grew hg (ha e he)).more hg.size⟩
theorem Apart.grew {w w' : World} {v v' : Value} {G : List Fm} (hp : Pdus w G) (hg : Grew w v w' v') (ha : Apart G v) : Apart G v' := fun e he y hy e2 => by
  rcases hg.new _ e2 with h | h
  · exact ha e he y hy h
  · have := hp.lt e he y hy; omega
theorem own_apart {w : World} {b1 b2 : Nat} {e1 e2 : TypeId} {s1 s2 n1 n2 : Nat} {v u : Value} {xs ys : List Value} (h1 : w.ownsRow b1 e1 s1 v n1 xs) (h2 : w.ownsRow b2 e2 s2 u n2 ys) (hne : e1 ≠ e2) : ∀ (a : Option Addr) (n c : Nat), v = .slice a n c → ∀ x : Addr, a = some x → u.ownBlock ≠ some x.block := fun a n c hv x hx => by
  rcases own_ne h1 h2 hne with h | h
  · rw [h]; intro h; cases h
  · intro h3; apply h; rw [h3, hv, hx]; rfl
theorem own_form {w : World} {b : Nat} {e : TypeId} {s n : Nat} {v : Value} {xs : List Value} (h : w.ownsRow b e s v n xs) : (∃ g c, v = .slice (some ⟨g, 0, none⟩) n c) ∨ v = .slice none 0 0 := by
  rcases h.2 with ⟨rfl, rfl⟩ | ⟨g, cap, cur, rfl, _⟩
  · exact .inr rfl
  · exact .inl ⟨g, cap, rfl⟩
theorem own_low {w : World} {b b2 : Nat} {e : TypeId} {s n : Nat} {v : Value} {xs : List Value} (h : w.ownsRow b e s v n xs) (hb : b2 ≤ b) : w.ownsRow b2 e s v n xs := by
  refine ⟨h.1, h.2.imp id ?_⟩
  rintro ⟨g, cap, cur, h1, h2, h3⟩
  exact ⟨g, cap, cur, h1, Nat.le_trans hb h2, h3⟩
theorem frs_alloc {w : World} {a : Option Addr} {n c : Nat} {es : List Fm} (h : FrsAt w w.heap.size a n c es) (o : Obj) : FrsAt (w.alloc o) w.heap.size a n c es := h.below ((Below.refl _ _).alloc (Nat.le_refl _) o) (Nat.le_refl _)
theorem Apart.append {G H : List Fm} {v : Value} (h : Apart G v) (h2 : Apart H v) : Apart (G ++ H) v := fun e he => by
  rcases List.mem_append.1 he with h3 | h3
  · exact h e h3
  · exact h2 e h3
theorem Pdus.append {w : World} {G H : List Fm} (h : Pdus w G) (h2 : Pdus w H) : Pdus w (G ++ H) := fun e he => by
  rcases List.mem_append.1 he with h3 | h3
  · exact h e h3
  · exact h2 e h3
/-- Frames, how many bytes they have, and an error's number; each frame's bytes in memory of its own. -/
def CutIn (l : List Fr) (k e : Int) (w : World) (en : Ending) (w' : World) : Prop :=
  ∃ a c es, en = .returned (.tuple #[.slice a l.length c, .int .i64 k, .int .i64 e]) ∧ es.map Fm.x = l ∧ FrsAt w' w'.heap.size a l.length c es ∧ Below w.heap.size w w' ∧ (a = none → c = 0) ∧ Pdus w' es ∧ ∀ f ∈ es, ∀ y : Addr, f.ap = some y → w.heap.size ≤ y.block
theorem Cut_in {a : Option Addr} {nb c : Nat} {b : List UInt8} {w : World} (hl : Sl b8 w w.heap.size a nb c b) (hm : nb ≤ 1000000) {l : List Fr} {s : List UInt8} (hc : Cuts b l s) {k e : Int} (hk : (b.length : Int) - (s.length : Int) = k) (he : (if begunB s = true then (0 : Int) else 10) = e) :
    Calls Try.prog 14 #[.slice a nb c] w (CutIn l k e w) := by
  refine (Cut_any a nb c b w hl hm).mono ?_
  rintro en w' ⟨xs, s', v, h1, rfl, ho, hp, hb⟩
  obtain ⟨e1, e2⟩ := cuts_det h1 hc
  subst e2
  have hn : xs.length = l.length := by rw [← e1, List.length_map]
  have hR := (cuts_iff.1 h1).2.1
  have hnil : ∀ a c, v = .slice a xs.length c → a = none → c = 0 := fun a c hv ha => by
    rcases ho.2 with ⟨h, _⟩ | ⟨g, cap, cur, h, _⟩
    · rw [hv] at h; injection h
    · rw [hv, ha] at h; injection h with h; cases h
  obtain ⟨a', c', rfl, hF⟩ := FrsAt.of_own ho rfl (fun it hit => (hp it hit).1)
  have hnil' := hnil a' c' rfl
  rw [hn] at hF ⊢
  refine ⟨a', c', xs.map It.fm, by rw [hk, he], by rw [← e1, List.map_map]; rfl, hF, hb, hnil', fun f hf => ?_, fun f hf y hy => ?_⟩
  · obtain ⟨it, hit, rfl⟩ := List.mem_map.1 hf
    exact ⟨(hR _ (List.mem_map_of_mem hit)).1, (hp it hit).1⟩
  · obtain ⟨it, hit, rfl⟩ := List.mem_map.1 hf
    exact (hp it hit).2 y hy
theorem part_at {w : World} {B bb off cu k nn n : Nat} {l : List UInt8} (h : Sl b8 w B (some ⟨bb, off, none⟩) n cu l) (hk : k + nn ≤ n) (hlt : k < cu) : Sl b8 w B (some ⟨bb, off + k, none⟩) nn (cu - k) ((l.drop k).take nn) := by
  have h1 := h.from_ (k := k) (by omega)
  rw [if_neg (by omega), show (Option.map (fun x : Addr => x.add k) (some ⟨bb, off, none⟩)) = some ⟨bb, off + k, none⟩ from by by_cases h0 : k = 0 <;> simp [Addr.add, h0]] at h1
  exact h1.take_ (k := nn) (by omega)
end Go.Proofs.Yteekdginloljjaa.MbW
