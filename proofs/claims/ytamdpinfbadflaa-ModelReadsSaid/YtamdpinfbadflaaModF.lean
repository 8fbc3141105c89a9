/- ModF: what was ModE, ModF. -/
import Derived.Test.YtamdpinfbadflaaModD
import Derived.Test.YtamdpinfbadflaaAskT
import Derived.Laws.Tables
import Derived.Laws.ResultCell
import Derived.BigRegion
import Derived.RegionTactic
import Derived.Test.YtamdpinfbadflaaAskRight
import Derived.Deep.RegionHeld3
/- Spaces and memories as values; the server's four tables, laid; where a request writes; which tables a function uses. -/
open Go.RowKit
namespace Go.Proofs.Ytamdpinfbadflaa.ModW
open AskM ReplyM ModM Mem AskW

/-- Where four lists lie. -/
structure Pl where
  ca : Option Addr
  cc : Nat
  ia : Option Addr
  ic : Nat
  ha : Option Addr
  hc : Nat
  wa : Option Addr
  wc : Nat
def nilP : Pl := ⟨none, 0, none, 0, none, 0, none, 0⟩
def emptyM : Me := ⟨[], [], [], []⟩
abbrev spV (s : Sp) (p : Pl) : Value := .agg #[.slice p.ca s.coils.length p.cc, .slice p.ia s.inputs.length p.ic, .slice p.ha s.holding.length p.hc, .slice p.wa s.words.length p.wc]
abbrev meV (m : Me) (p : Pl) : Value := .agg #[.slice p.ca m.coils.length p.cc, .slice p.ia m.inputs.length p.ic, .slice p.ha m.holding.length p.hc, .slice p.wa m.words.length p.wc]
structure SpAt (w : World) (B : Nat) (s : Sp) (p : Pl) : Prop where
  coils : ArsAt w B p.ca s.coils.length p.cc s.coils
  inputs : ArsAt w B p.ia s.inputs.length p.ic s.inputs
  holding : ArsAt w B p.ha s.holding.length p.hc s.holding
  words : ArsAt w B p.wa s.words.length p.wc s.words
structure MeAt (w : World) (B : Nat) (m : Me) (p : Pl) : Prop where
  coils : Sl Value.bool w B p.ca m.coils.length p.cc m.coils
  inputs : Sl Value.bool w B p.ia m.inputs.length p.ic m.inputs
  holding : Sl b16 w B p.ha m.holding.length p.hc m.holding
  words : Sl b16 w B p.wa m.words.length p.wc m.words
structure MeSmall (m : Me) : Prop where
  coils : m.coils.length ≤ 1000000
  inputs : m.inputs.length ≤ 1000000
  holding : m.holding.length ≤ 1000000
  words : m.words.length ≤ 1000000
section
variable {w w' : World} {s : Sp} {m : Me} {p : Pl}
theorem SpAt.on (h : SpAt w w.heap.size s p) (hb : Below w.heap.size w w') : SpAt w' w'.heap.size s p := ⟨h.coils.on hb, h.inputs.on hb, h.holding.on hb, h.words.on hb⟩
theorem sl_on {α : Type} {f : α → Value} {n c : Nat} {a : Option Addr} {l : List α} (h : Sl f w w.heap.size a n c l) (hb : Below w.heap.size w w') : Sl f w' w'.heap.size a n c l := (h.below hb (Nat.le_refl _)).more hb.size
theorem MeAt.on (h : MeAt w w.heap.size m p) (hb : Below w.heap.size w w') : MeAt w' w'.heap.size m p := ⟨sl_on h.coils hb, sl_on h.inputs hb, sl_on h.holding hb, sl_on h.words hb⟩
theorem MeAt.nil {B : Nat} : MeAt w B emptyM nilP := ⟨Sl.none_, Sl.none_, Sl.none_, Sl.none_⟩
end
abbrev srvC (s : Sp) (m : Me) (p q : Pl) : Array Value := #[.slice p.ca s.coils.length p.cc, .slice q.ca m.coils.length q.cc, .slice p.ia s.inputs.length p.ic, .slice q.ia m.inputs.length q.ic, .slice p.ha s.holding.length p.hc, .slice q.ha m.holding.length q.hc, .slice p.wa s.words.length p.wc, .slice q.wa m.words.length q.wc]
abbrev nil8 : Array Value := #[.slice none 0 0, .slice none 0 0, .slice none 0 0, .slice none 0 0, .slice none 0 0, .slice none 0 0, .slice none 0 0, .slice none 0 0]
set_option maxRecDepth 100000 in
set_option maxHeartbeats 2000000 in
theorem lay_any (s : Sp) (m : Me) (p q : Pl) (w : World) :
    Calls Try.prog 24 #[spV s p, meV m q] w fun e w' => e = .returned (.agg (srvC s m p q)) ∧ Below w.heap.size w w' := by
  obtain ⟨ca, cc, ia, ic, ha, hc, wa, wc⟩ := p
  obtain ⟨da, dc, ja, jc, ka, kc, xa, xc⟩ := q
  obtain ⟨s1, s2, s3, s4⟩ := s
  obtain ⟨m1, m2, m3, m4⟩ := m
  simp only [srvC]
  have hB : Hid (∀ o1 o2 o3 : Obj, Below w.heap.size w (((w.alloc o1).alloc o2).alloc o3)) := Lib.hid fun o1 o2 o3 => (((Below.refl _ _).alloc (Nat.le_refl _) _).alloc (by simp) _).alloc (by simp; omega) _
  have HR : Hid (∀ (o1 o2 : Obj) (c : Array Value), (((w.alloc o1).alloc o2).alloc (.cells c 67)).heap[w.heap.size + 1 + 1]? = some (.cells c 67 (0, 0))) := Lib.hid fun o1 o2 c => by
    have h := heap_alloc_new ((w.alloc o1).alloc o2) (.cells c 67)
    simpa using h
  go_enter Try.func24, Try.ntmps24
  go_wp2_with fail
  exact bodyPost_ret (results_cell_row rfl _ _ (w.heap.size + 1 + 1) 67 _ (0, 0) _ rfl (HR.out _ _ _) Try.underlying67 rfl (by kernel_rfl)) rfl ⟨rfl, hB.out _ _ _⟩
theorem target_any (a : Req) (aw : Option Addr) (cw : Nat) (ab : Option Addr) (cb : Nat) (w : World) :
    Calls Try.prog 45 #[askV a aw cw ab cb] w (Says (.int .i64 (targetN a : Int)) w) := by
  obtain ⟨fn, at_, many, to_, words, bits⟩ := a
  have h1 := fn.toNat_lt
  have h2 := at_.toNat_lt
  have h3 := to_.toNat_lt
  by_cases h : fn.toNat = 23
  · have hb : ((fn.toNat : Int) == 23) = true := by rw [h]; rfl
    have HV : Hid (targetN ⟨fn, at_, many, to_, words, bits⟩ = to_.toNat) := Lib.hid (by simp [targetN, h])
    clear h
    go_enter Try.func45, Try.ntmps45
    go_wp2_with fail
    go_ret
    rw [HV.out]
    exact Says.mk ((Below.refl _ _).alloc (Nat.le_refl _) _)
  · have hb : ((fn.toNat : Int) == 23) = false := by simp; omega
    have HV : Hid (targetN ⟨fn, at_, many, to_, words, bits⟩ = at_.toNat) := Lib.hid (by simp [targetN, h])
    clear h
    go_enter Try.func45, Try.ntmps45
    go_wp2_with fail
    go_ret
    rw [HV.out]
    exact Says.mk ((Below.refl _ _).alloc (Nat.le_refl _) _)

/-! ### Which tables a function uses -/
/-- The row of a function: four pointers. -/
def useV (g c : Nat) : Value := .agg #[.pointer (ptr g (brN c)), .pointer (ptr g (bwN c)), .pointer (ptr g (wrN c)), .pointer (ptr g (wwN c))]
def codes : List Nat := [1, 2, 3, 4, 5, 6, 15, 16, 23]
theorem run_putU (w : World) (es : Array MapEntry) (n : Nat) (c : Nat) (hc : c < 256) (v : Value) (es' : Array MapEntry)
    (hf : Instr.findNow (.int .u8) (.int .u8 (c : Int)) es.toList 0 = some none) (he : es' = es.push ⟨.int .u8 (c : Int), v, n⟩) :
    (Instr.mapUpdate 98 (.map (some w.heap.size)) (.int .u8 (c : Int)) v).run Try.prog (w.alloc (.map es n)) = .ok () (w.alloc (.map es' (n + 1))) := by
  subst he
  have hg := MapKept.run_getObj_map (P := Try.prog) (MapKept.heap_alloc w (.map es n)).1
  simp [Instr.mapUpdate, go_sem, hg, run_check _ _ hc, run_find _ _ _ hf]
  rw [MapKept.run_setObj_map _ (MapKept.heap_alloc w (.map es n)).1]
  unfold World.alloc
  simp only [push_set]
theorem find_cons (x : Int) (E : List MapEntry) (e : MapEntry) (k : Nat) : Instr.findNow (.int .u8) (.int .u8 x) (e :: E) k = match Instr.sameNow (.int .u8) (.int .u8 x) e.key with
    | some true => some (some (k, e.val))
    | some false => Instr.findNow (.int .u8) (.int .u8 x) E (k + 1)
    | none => none := rfl
theorem find_push (x : Int) (E : List MapEntry) (e : MapEntry) : ∀ (k : Nat) (r : Option (Nat × Value)), Instr.findNow (.int .u8) (.int .u8 x) E k = some r →
    Instr.findNow (.int .u8) (.int .u8 x) (E ++ [e]) k = match r with
      | some q => some (some q)
      | none => Instr.findNow (.int .u8) (.int .u8 x) [e] (k + E.length) := by
  induction E with
  | nil => intro k r h; simp [Instr.findNow] at h; subst h; simp
  | cons e0 E ih =>
    intro k r h
    rw [find_cons] at h
    rw [List.cons_append, find_cons]
    cases hs : Instr.sameNow (.int .u8) (.int .u8 x) e0.key with
    | none => rw [hs] at h; cases h
    | some b =>
      rw [hs] at h
      cases b with
      | true => simp only at h ⊢; injection h with h; subst h; rfl
      | false =>
        simp only at h ⊢
        rw [ih (k + 1) r h]
        cases r with
        | some q => rfl
        | none => simp only; rw [List.length_cons, Nat.add_assoc, Nat.add_comm 1]
theorem find_one (x y : Int) (v : Value) (n k : Nat) : Instr.findNow (.int .u8) (.int .u8 x) [⟨.int .u8 y, v, n⟩] k = some (if x = y then some (k, v) else none) := by
  by_cases h : x = y
  · subst h; simp [Instr.findNow, Instr.sameNow]
  · have : (y == x) = false := by simpa using fun e => h e.symm
    have h2 : (x == y) = false := by simpa using h
    simp [Instr.findNow, Instr.sameNow, h2, h]
def code (k : Nat) : Nat := codes.getD k 0
/-- The entries of those functions for which b is on. -/
def Ents (g : Nat) (b : Nat → Bool) (E : Array MapEntry) : Prop :=
  ∀ c : Nat, ∃ r, Instr.findNow (.int .u8) (.int .u8 (c : Int)) E.toList 0 = some r ∧ ((∃ k, k < 9 ∧ c = code k ∧ b k = true) → r.map (·.2) = some (useV g c)) ∧ ((∀ k, k < 9 → c = code k → b k = false) → r = none)
theorem code_inj {i j : Nat} (hi : i < 9) (hj : j < 9) (h : code i = code j) : i = j := by
  have : ∀ i j : Fin 9, code i = code j → i = j := by decide
  have := this ⟨i, hi⟩ ⟨j, hj⟩ h
  injection this
def upd (b : Nat → Bool) (k : Nat) : Nat → Bool := fun j => if j = k then true else b j
theorem Ents.put {g : Nat} {b : Nat → Bool} {E : Array MapEntry} (h : Ents g b E) {k : Nat} (hk : k < 9) (hb : b k = false) (n : Nat) : Ents g (upd b k) (E.push ⟨.int .u8 (code k : Int), useV g (code k), n⟩) := by
  intro c
  obtain ⟨r, hr, h1, h2⟩ := h c
  have hp := find_push (c : Int) E.toList ⟨.int .u8 (code k : Int), useV g (code k), n⟩ 0 r hr
  rw [Array.toList_push, hp]
  cases r with
  | some q =>
    refine ⟨some q, rfl, fun ⟨j, hj, hc, _⟩ => ?_, fun h3 => ?_⟩
    · refine h1 ⟨j, hj, hc, ?_⟩
      cases hbj : b j with
      | true => rfl
      | false =>
        have : (some q : Option (Nat × Value)) = none := h2 (fun i hi hci => by rw [code_inj hi hj (hci.symm.trans hc)]; exact hbj)
        cases this
    · exact h2 fun i hi hci => by
        have := h3 i hi hci
        unfold upd at this
        split at this
        · cases this
        · exact this
  | none =>
    rw [find_one]
    by_cases hc : (c : Int) = (code k : Int)
    · have hc' : c = code k := by omega
      subst hc'
      rw [if_pos rfl]
      refine ⟨_, rfl, fun _ => rfl, fun h3 => ?_⟩
      have := h3 k hk rfl
      unfold upd at this
      rw [if_pos rfl] at this
      cases this
    · rw [if_neg hc]
      refine ⟨none, rfl, fun ⟨j, hj, hcj, hbj⟩ => ?_, fun _ => rfl⟩
      refine h1 ⟨j, hj, hcj, ?_⟩
      unfold upd at hbj
      split at hbj
      · rename_i e; subst e; exact absurd (by omega) hc
      · exact hbj
theorem Ents.new {g : Nat} {b : Nat → Bool} {E : Array MapEntry} (h : Ents g b E) {k : Nat} (hk : k < 9) (hb : b k = false) : Instr.findNow (.int .u8) (.int .u8 (code k : Int)) E.toList 0 = some none := by
  obtain ⟨r, hr, _, h2⟩ := h (code k)
  rw [hr, h2 fun i hi hci => by rw [← code_inj hk hi hci]; exact hb]
/-- All functions' entries. -/
def UseMap (g : Nat) (E : Array MapEntry) : Prop := Ents g (fun _ => true) E
theorem UseMap.find {g : Nat} {E : Array MapEntry} (h : UseMap g E) (c : Nat) : ∃ r, Instr.findNow (.int .u8) (.int .u8 (c : Int)) E.toList 0 = some r ∧ (r.map (·.2) = some (useV g c) ∨ (r = none ∧ useV g c = .agg #[.pointer none, .pointer none, .pointer none, .pointer none])) := by
  obtain ⟨r, hr, h1, h2⟩ := h c
  refine ⟨r, hr, ?_⟩
  by_cases hc : ∃ k, k < 9 ∧ c = code k ∧ true = true
  · exact .inl (h1 hc)
  · refine .inr ⟨h2 fun k hk hck => absurd ⟨k, hk, hck, rfl⟩ hc, ?_⟩
    have hn : ∀ k, k < 9 → c ≠ code k := fun k hk e => hc ⟨k, hk, e, rfl⟩
    have n1 := hn 0 (by omega); have n2 := hn 1 (by omega); have n3 := hn 2 (by omega); have n4 := hn 3 (by omega); have n5 := hn 4 (by omega)
    have n6 := hn 5 (by omega); have n7 := hn 6 (by omega); have n8 := hn 7 (by omega); have n9 := hn 8 (by omega)
    change c ≠ 1 at n1; change c ≠ 2 at n2; change c ≠ 3 at n3; change c ≠ 4 at n4; change c ≠ 5 at n5; change c ≠ 6 at n6; change c ≠ 15 at n7; change c ≠ 16 at n8; change c ≠ 23 at n9
    unfold useV brN bwN wrN wwN; simp [n1, n2, n3, n4, n5, n6, n7, n8, n9, ptr]
theorem run_use (w : World) (b n g : Nat) (E : Array MapEntry) (hE : UseMap g E) (hg : w.heap[b]? = some (.map E n)) (c : Nat) (hc : c < 256) :
    (Instr.lookup 98 (.map (some b)) (.int .u8 (c : Int)) false).run Try.prog w = .ok (useV g c) w := by
  have hg := MapKept.run_getObj_map (P := Try.prog) hg
  obtain ⟨r, hr, hm⟩ := hE.find c
  have hz : ∀ w : World, (zeroValue 97).run Try.prog w = .ok (.agg #[.pointer none, .pointer none, .pointer none, .pointer none]) w := fun _ => by kernel_rfl
  simp [Instr.lookup, go_sem, hg, run_check _ _ hc, run_find _ _ _ hr]
  rcases hm with hm | ⟨rfl, hm⟩
  · obtain ⟨⟨i, v⟩, rfl⟩ : ∃ x, r = some x := by cases r <;> simp at hm ⊢
    simp at hm
    subst hm
    simp [go_sem]
  · rw [hm]
    simp [go_sem, hz]

/-! ### The region that makes the map: nine entries in whatever order -/
def ins9 (k : Nat) : Nat := [5, 10, 15, 20, 25, 30, 35, 40, 48].getD k 0
def off9 (b : Nat → Bool) : Nat := (!b 0).toNat + (!b 1).toNat + (!b 2).toNat + (!b 3).toNat + (!b 4).toNat + (!b 5).toNat + (!b 6).toNat + (!b 7).toNat + (!b 8).toNat
theorem off_upd {b : Nat → Bool} {k : Nat} (hk : k < 9) (hb : b k = false) : off9 b = off9 (upd b k) + 1 := by
  unfold off9 upd
  match k, hk with
  | 0, _ => simp [hb] <;> omega
  | 1, _ => simp [hb] <;> omega
  | 2, _ => simp [hb] <;> omega
  | 3, _ => simp [hb] <;> omega
  | 4, _ => simp [hb] <;> omega
  | 5, _ => simp [hb] <;> omega
  | 6, _ => simp [hb] <;> omega
  | 7, _ => simp [hb] <;> omega
  | 8, _ => simp [hb] <;> omega
def base9 (j : Nat) : Bool := decide (j < 49) && !((List.range 9).any fun k => ins9 k == j)
def at9 (b : Nat → Bool) (j : Nat) : Bool := base9 j || (List.range 9).any fun k => ins9 k == j && b k
def L9 (b : Nat → Bool) : Array Bool := (Array.range 51).map (at9 b)
theorem L9_size (b : Nat → Bool) : (L9 b).size = 51 := by simp [L9]
theorem L9_get (b : Nat → Bool) (j : Nat) (hj : j < 51) (d : Bool) : (L9 b).getD j d = at9 b j := by simp [L9, hj]
theorem at9_upd {b : Nat → Bool} {k : Nat} (hk : k < 9) (j : Nat) : at9 (upd b k) j = (at9 b j || ins9 k == j) := by
  unfold at9
  rw [Bool.or_assoc]
  congr 1
  rw [Bool.eq_iff_iff, Bool.or_eq_true, List.any_eq_true, List.any_eq_true]
  constructor
  · rintro ⟨i, hi, h⟩
    rw [Bool.and_eq_true] at h
    by_cases hik : i = k
    · subst hik; exact .inr h.1
    · refine .inl ⟨i, hi, ?_⟩
      have h2 := h.2
      unfold upd at h2
      rw [if_neg hik] at h2
      rw [Bool.and_eq_true]; exact ⟨h.1, h2⟩
  · rintro (⟨i, hi, h⟩ | h)
    · rw [Bool.and_eq_true] at h
      refine ⟨i, hi, ?_⟩
      rw [Bool.and_eq_true]
      refine ⟨h.1, ?_⟩
      unfold upd
      split
      · rfl
      · exact h.2
    · exact ⟨k, List.mem_range.2 hk, by rw [Bool.and_eq_true]; exact ⟨h, by simp [upd]⟩⟩
theorem set_L9 {b : Nat → Bool} {k : Nat} (hk : k < 9) : (L9 b).setIfInBounds (ins9 k) true = L9 (upd b k) := by
  apply Array.ext
  · simp [L9]
  · intro j h1 h2
    have hj : j < 51 := by rw [L9_size] at h2; exact h2
    rw [Array.getElem_setIfInBounds (by simpa using h1)]
    have e1 : (L9 (upd b k))[j] = at9 (upd b k) j := by simp [L9]
    have e2 : ∀ h, (L9 b)[j]'h = at9 b j := fun h => by simp [L9]
    rw [e1, at9_upd hk]
    split
    · rename_i e; subst e; simp
    · rename_i e
      rw [e2]
      have : (ins9 k == j) = false := by simpa using e
      rw [this, Bool.or_false]
theorem all_on {b : Nat → Bool} (h : off9 b = 0) : ∀ k, k < 9 → b k = true := by
  unfold off9 at h
  have ht : ∀ x : Bool, (!x).toNat = 0 → x = true := by decide
  have h0 := ht (b 0) (by omega); have h1 := ht (b 1) (by omega); have h2 := ht (b 2) (by omega); have h3 := ht (b 3) (by omega); have h4 := ht (b 4) (by omega)
  have h5 := ht (b 5) (by omega); have h6 := ht (b 6) (by omega); have h7 := ht (b 7) (by omega); have h8 := ht (b 8) (by omega)
  intro k hk
  match k, hk with
  | 0, _ => exact h0
  | 1, _ => exact h1
  | 2, _ => exact h2
  | 3, _ => exact h3
  | 4, _ => exact h4
  | 5, _ => exact h5
  | 6, _ => exact h6
  | 7, _ => exact h7
  | 8, _ => exact h8
theorem none_off {b : Nat → Bool} (h : ∀ k, k < 9 → b k = true) : off9 b = 0 := by
  unfold off9
  rw [h 0 (by omega), h 1 (by omega), h 2 (by omega), h 3 (by omega), h 4 (by omega), h 5 (by omega), h 6 (by omega), h 7 (by omega), h 8 (by omega)]
  rfl
theorem wpAny_cast {P : Program} {md : Region.Mode} {ops : Array Oper} {Q : Exit → Act → World → Prop} {a : Act} {w : World} {f f2 : Nat} {L L2 : Array Bool} (hf : f2 = f) (hL : L2 = L) (h : wpAny P md ops Q f L a w) : wpAny P md ops Q f2 L2 a w := by
  subst hf hL; exact h
def chk9 (md : Region.Mode) (ops : Array Oper) : Bool :=
  (ops.size == 51) && ((List.range 9).all fun k => ((ops[ins9 k]?).map (·.after.all fun e => !Region.binds md e || base9 e.on)).getD false) &&
  ([49, 50].all fun i => (List.range 9).all fun k => ((ops[i]?).map (·.after.any fun e => Region.binds md e && e.on == ins9 k)).getD false)
theorem ins9_lt {k : Nat} (hk : k < 9) : ins9 k < 49 := by
  have : ∀ k : Fin 9, ins9 k < 49 := by decide
  exact this ⟨k, hk⟩
theorem ins9_inj {i j : Nat} (hi : i < 9) (hj : j < 9) (h : ins9 i = ins9 j) : i = j := by
  have : ∀ i j : Fin 9, ins9 i = ins9 j → i = j := by decide
  have := this ⟨i, hi⟩ ⟨j, hj⟩ h
  injection this
theorem at9_ins {b : Nat → Bool} {k : Nat} (hk : k < 9) : at9 b (ins9 k) = b k := by
  unfold at9
  have h1 : base9 (ins9 k) = false := by
    unfold base9
    have : ((List.range 9).any fun i => ins9 i == ins9 k) = true := List.any_eq_true.2 ⟨k, List.mem_range.2 hk, by simp⟩
    rw [this]; simp
  rw [h1, Bool.false_or, Bool.eq_iff_iff, List.any_eq_true]
  constructor
  · rintro ⟨i, hi, h⟩
    rw [Bool.and_eq_true, beq_iff_eq] at h
    rw [← ins9_inj (List.mem_range.1 hi) hk h.1]; exact h.2
  · intro h
    exact ⟨k, List.mem_range.2 hk, by simp [h]⟩
theorem at9_off {b : Nat → Bool} {j : Nat} (hj : j < 51) (h : at9 b j = false) : (∃ k, k < 9 ∧ j = ins9 k ∧ b k = false) ∨ j = 49 ∨ j = 50 := by
  by_cases h49 : j < 49
  · by_cases hin : ((List.range 9).any fun k => ins9 k == j) = true
    · obtain ⟨k, hk, hkj⟩ := List.any_eq_true.1 hin
      have hk := List.mem_range.1 hk
      have e : j = ins9 k := by simpa using (beq_iff_eq.1 hkj).symm
      subst e
      rw [at9_ins hk] at h
      exact .inl ⟨k, hk, rfl, h⟩
    · unfold at9 base9 at h
      rw [Bool.not_eq_true] at hin
      rw [hin] at h
      simp [h49] at h
  · exact .inr (by omega)
theorem rdy_of {md : Region.Mode} {ops : Array Oper} (h : chk9 md ops = true) :
    ∀ b : Nat → Bool, (∃ k, k < 9 ∧ b k = false) → Region.ready md ops (L9 b) ≠ [] ∧ ∀ i ∈ Region.ready md ops (L9 b), ∃ k, k < 9 ∧ i = ins9 k ∧ b k = false := by
  intro b ⟨k0, hk0, hb0⟩
  unfold chk9 at h
  rw [Bool.and_eq_true, Bool.and_eq_true, beq_iff_eq] at h
  obtain ⟨⟨hsz, hA⟩, hB⟩ := h
  rw [List.all_eq_true] at hA hB
  unfold Region.ready
  constructor
  · intro e
    have hm : ins9 k0 ∈ (List.range ops.size).filter (fun i => !(L9 b).getD i true && ((ops[i]?).map (·.after.all fun e => !Region.binds md e || (L9 b).getD e.on false)).getD false) := by
      rw [List.mem_filter]
      have hlt := ins9_lt hk0
      refine ⟨List.mem_range.2 (by omega), ?_⟩
      rw [L9_get _ _ (by omega), at9_ins hk0, hb0]
      have h1 := hA k0 (List.mem_range.2 hk0)
      cases ho : ops[ins9 k0]? with
      | none => rw [ho] at h1; cases h1
      | some o =>
        rw [ho] at h1
        simp only [Option.map_some, Option.getD_some, Bool.not_false, Bool.true_and] at h1 ⊢
        rw [Array.all_eq_true'] at h1 ⊢
        intro e he
        have h2 := h1 e he
        rw [Bool.or_eq_true] at h2 ⊢
        rcases h2 with h2 | h2
        · exact .inl h2
        · refine .inr ?_
          have h49 : e.on < 49 := by unfold base9 at h2; rw [Bool.and_eq_true] at h2; exact of_decide_eq_true h2.1
          rw [L9_get _ _ (by omega)]
          unfold at9
          rw [h2]; rfl
    rw [e] at hm
    cases hm
  · intro i hi
    rw [List.mem_filter, Bool.and_eq_true] at hi
    obtain ⟨hi1, hi2, hi3⟩ := hi
    have hi1 := List.mem_range.1 hi1
    rw [L9_get _ _ (by omega)] at hi2
    have hoff : at9 b i = false := by simpa using hi2
    rcases at9_off (by omega) hoff with hk | hk
    · exact hk
    · exfalso
      have h1 := hB i (by rcases hk with rfl | rfl <;> simp)
      rw [List.all_eq_true] at h1
      have h2 := h1 k0 (List.mem_range.2 hk0)
      cases ho : ops[i]? with
      | none => rw [ho] at h2; cases h2
      | some o =>
        rw [ho] at h2 hi3
        simp only [Option.map_some, Option.getD_some] at h2 hi3
        rw [Array.any_eq_true'] at h2
        rw [Array.all_eq_true'] at hi3
        obtain ⟨e, he, h2⟩ := h2
        have h3 := hi3 e he
        rw [Bool.and_eq_true, beq_iff_eq] at h2
        rw [h2.2, h2.1, L9_get _ _ (by have := ins9_lt hk0; omega), at9_ins hk0, hb0] at h3
        cases h3
theorem wpAny_nine {P : Program} {md : Region.Mode} {ops : Array Oper} {Q : Exit → Act → World → Prop} {a : Act} {f : Nat} (S : (Nat → Bool) → World → Prop)
    (rdy : ∀ b, (∃ k, k < 9 ∧ b k = false) → Region.ready md ops (L9 b) ≠ [] ∧ ∀ i ∈ Region.ready md ops (L9 b), ∃ k, k < 9 ∧ i = ins9 k ∧ b k = false)
    (step : ∀ k, k < 9 → ∀ b w, S b w → b k = false → wpOp P ops Q (ins9 k) (fun a' w' => a' = a ∧ S (upd b k) w') a w)
    (hend : ∀ b w, S b w → (∀ k, k < 9 → b k = true) → wpAny P md ops Q f (L9 b) a w) :
    ∀ n b w, off9 b = n → S b w → wpAny P md ops Q (f + n) (L9 b) a w := by
  intro n
  induction n with
  | zero => intro b w hn hS; exact hend b w hS (all_on hn)
  | succ n ih =>
    intro b w hn hS
    have hex : ∃ k, k < 9 ∧ b k = false := by
      refine Classical.byContradiction fun h => ?_
      have h0 : off9 b = 0 := none_off fun k hk => by
        cases hb : b k with
        | true => rfl
        | false => exact absurd ⟨k, hk, hb⟩ h
      omega
    obtain ⟨h1, h2⟩ := rdy b hex
    rw [← Nat.add_assoc]
    refine ⟨fun h0 => absurd h0 h1, fun i hi => ?_⟩
    obtain ⟨k, hk, rfl, hb⟩ := h2 i hi
    refine wpOp_mono ?_ (step k hk b w hS hb)
    rintro a' w' ⟨rfl, hS'⟩
    rw [set_L9 hk]
    exact ih _ _ (by have := off_upd hk hb; omega) hS'
set_option maxRecDepth 100000 in
set_option maxHeartbeats 4000000 in
theorem uses_any (g : Nat) (w : World) (_hg : g < w.heap.size) :
    Calls Try.prog 44 #[.pointer (some ⟨g, 0, none⟩)] w fun e w' => e = .returned (.map (some w.heap.size)) ∧ ∃ E n q, w' = (w.alloc (.map E n)).drewN q ∧ UseMap g E := by
  have hmm := @run_makeMap Try.prog
  go_enter Try.func44, Try.ntmps44
  go_wp2_with fail
  refine wp_region_any (by kernel_rfl) ?_
  refine wpAny_take (i := 1) (v := (.pointer (some ⟨g, 0, none⟩))) rfl (by kernel_rfl) (by kernel_rfl) (by kernel_rfl) (fun _ _ _ h => h) (Or.inl ⟨by rfl, fun _ => by go_simp⟩) ?_
  refine wpAny_take (i := 2) (v := (.pointer (some ⟨g, 0, none⟩))) rfl (by kernel_rfl) (by kernel_rfl) (by kernel_rfl) (fun _ _ _ h => h) (Or.inl ⟨by rfl, fun _ => by go_simp⟩) ?_
  refine wpAny_take (i := 3) (v := (.pointer (some ⟨g, 0, none⟩))) rfl (by kernel_rfl) (by kernel_rfl) (by kernel_rfl) (fun _ _ _ h => h) (Or.inl ⟨by rfl, fun _ => by go_simp⟩) ?_
  refine wpAny_take (i := 4) (v := (.agg #[.pointer (some ⟨g, 0, none⟩), .pointer none, .pointer none, .pointer none])) rfl (by kernel_rfl) (by kernel_rfl) (by kernel_rfl) (fun _ _ _ h => h) (Or.inl ⟨by rfl, fun _ => by go_simp⟩) ?_
  refine wpAny_take (i := 6) (v := (.pointer (some ⟨g, 0, none⟩))) rfl (by kernel_rfl) (by kernel_rfl) (by kernel_rfl) (fun _ _ _ h => h) (Or.inl ⟨by rfl, fun _ => by go_simp⟩) ?_
  refine wpAny_take (i := 7) (v := (.pointer (some ⟨g, 0, none⟩))) rfl (by kernel_rfl) (by kernel_rfl) (by kernel_rfl) (fun _ _ _ h => h) (Or.inl ⟨by rfl, fun _ => by go_simp⟩) ?_
  refine wpAny_take (i := 8) (v := (.pointer (some ⟨g, 2, none⟩))) rfl (by kernel_rfl) (by kernel_rfl) (by kernel_rfl) (fun _ _ _ h => h) (Or.inl ⟨by rfl, fun _ => by go_simp⟩) ?_
  refine wpAny_take (i := 9) (v := (.agg #[.pointer (some ⟨g, 2, none⟩), .pointer none, .pointer none, .pointer none])) rfl (by kernel_rfl) (by kernel_rfl) (by kernel_rfl) (fun _ _ _ h => h) (Or.inl ⟨by rfl, fun _ => by go_simp⟩) ?_
  refine wpAny_take (i := 11) (v := (.pointer (some ⟨g, 0, none⟩))) rfl (by kernel_rfl) (by kernel_rfl) (by kernel_rfl) (fun _ _ _ h => h) (Or.inl ⟨by rfl, fun _ => by go_simp⟩) ?_
  refine wpAny_take (i := 12) (v := (.pointer (some ⟨g, 0, none⟩))) rfl (by kernel_rfl) (by kernel_rfl) (by kernel_rfl) (fun _ _ _ h => h) (Or.inl ⟨by rfl, fun _ => by go_simp⟩) ?_
  refine wpAny_take (i := 13) (v := (.pointer (some ⟨g, 4, none⟩))) rfl (by kernel_rfl) (by kernel_rfl) (by kernel_rfl) (fun _ _ _ h => h) (Or.inl ⟨by rfl, fun _ => by go_simp⟩) ?_
  refine wpAny_take (i := 14) (v := (.agg #[.pointer none, .pointer none, .pointer (some ⟨g, 4, none⟩), .pointer none])) rfl (by kernel_rfl) (by kernel_rfl) (by kernel_rfl) (fun _ _ _ h => h) (Or.inl ⟨by rfl, fun _ => by go_simp⟩) ?_
  refine wpAny_take (i := 16) (v := (.pointer (some ⟨g, 0, none⟩))) rfl (by kernel_rfl) (by kernel_rfl) (by kernel_rfl) (fun _ _ _ h => h) (Or.inl ⟨by rfl, fun _ => by go_simp⟩) ?_
  refine wpAny_take (i := 17) (v := (.pointer (some ⟨g, 0, none⟩))) rfl (by kernel_rfl) (by kernel_rfl) (by kernel_rfl) (fun _ _ _ h => h) (Or.inl ⟨by rfl, fun _ => by go_simp⟩) ?_
  refine wpAny_take (i := 18) (v := (.pointer (some ⟨g, 6, none⟩))) rfl (by kernel_rfl) (by kernel_rfl) (by kernel_rfl) (fun _ _ _ h => h) (Or.inl ⟨by rfl, fun _ => by go_simp⟩) ?_
  refine wpAny_take (i := 19) (v := (.agg #[.pointer none, .pointer none, .pointer (some ⟨g, 6, none⟩), .pointer none])) rfl (by kernel_rfl) (by kernel_rfl) (by kernel_rfl) (fun _ _ _ h => h) (Or.inl ⟨by rfl, fun _ => by go_simp⟩) ?_
  refine wpAny_take (i := 21) (v := (.pointer (some ⟨g, 0, none⟩))) rfl (by kernel_rfl) (by kernel_rfl) (by kernel_rfl) (fun _ _ _ h => h) (Or.inl ⟨by rfl, fun _ => by go_simp⟩) ?_
  refine wpAny_take (i := 22) (v := (.pointer (some ⟨g, 0, none⟩))) rfl (by kernel_rfl) (by kernel_rfl) (by kernel_rfl) (fun _ _ _ h => h) (Or.inl ⟨by rfl, fun _ => by go_simp⟩) ?_
  refine wpAny_take (i := 23) (v := (.pointer (some ⟨g, 0, none⟩))) rfl (by kernel_rfl) (by kernel_rfl) (by kernel_rfl) (fun _ _ _ h => h) (Or.inl ⟨by rfl, fun _ => by go_simp⟩) ?_
  refine wpAny_take (i := 24) (v := (.agg #[.pointer none, .pointer (some ⟨g, 0, none⟩), .pointer none, .pointer none])) rfl (by kernel_rfl) (by kernel_rfl) (by kernel_rfl) (fun _ _ _ h => h) (Or.inl ⟨by rfl, fun _ => by go_simp⟩) ?_
  refine wpAny_take (i := 26) (v := (.pointer (some ⟨g, 0, none⟩))) rfl (by kernel_rfl) (by kernel_rfl) (by kernel_rfl) (fun _ _ _ h => h) (Or.inl ⟨by rfl, fun _ => by go_simp⟩) ?_
  refine wpAny_take (i := 27) (v := (.pointer (some ⟨g, 0, none⟩))) rfl (by kernel_rfl) (by kernel_rfl) (by kernel_rfl) (fun _ _ _ h => h) (Or.inl ⟨by rfl, fun _ => by go_simp⟩) ?_
  refine wpAny_take (i := 28) (v := (.pointer (some ⟨g, 4, none⟩))) rfl (by kernel_rfl) (by kernel_rfl) (by kernel_rfl) (fun _ _ _ h => h) (Or.inl ⟨by rfl, fun _ => by go_simp⟩) ?_
  refine wpAny_take (i := 29) (v := (.agg #[.pointer none, .pointer none, .pointer none, .pointer (some ⟨g, 4, none⟩)])) rfl (by kernel_rfl) (by kernel_rfl) (by kernel_rfl) (fun _ _ _ h => h) (Or.inl ⟨by rfl, fun _ => by go_simp⟩) ?_
  refine wpAny_take (i := 31) (v := (.pointer (some ⟨g, 0, none⟩))) rfl (by kernel_rfl) (by kernel_rfl) (by kernel_rfl) (fun _ _ _ h => h) (Or.inl ⟨by rfl, fun _ => by go_simp⟩) ?_
  refine wpAny_take (i := 32) (v := (.pointer (some ⟨g, 0, none⟩))) rfl (by kernel_rfl) (by kernel_rfl) (by kernel_rfl) (fun _ _ _ h => h) (Or.inl ⟨by rfl, fun _ => by go_simp⟩) ?_
  refine wpAny_take (i := 33) (v := (.pointer (some ⟨g, 0, none⟩))) rfl (by kernel_rfl) (by kernel_rfl) (by kernel_rfl) (fun _ _ _ h => h) (Or.inl ⟨by rfl, fun _ => by go_simp⟩) ?_
  refine wpAny_take (i := 34) (v := (.agg #[.pointer none, .pointer (some ⟨g, 0, none⟩), .pointer none, .pointer none])) rfl (by kernel_rfl) (by kernel_rfl) (by kernel_rfl) (fun _ _ _ h => h) (Or.inl ⟨by rfl, fun _ => by go_simp⟩) ?_
  refine wpAny_take (i := 36) (v := (.pointer (some ⟨g, 0, none⟩))) rfl (by kernel_rfl) (by kernel_rfl) (by kernel_rfl) (fun _ _ _ h => h) (Or.inl ⟨by rfl, fun _ => by go_simp⟩) ?_
  refine wpAny_take (i := 37) (v := (.pointer (some ⟨g, 0, none⟩))) rfl (by kernel_rfl) (by kernel_rfl) (by kernel_rfl) (fun _ _ _ h => h) (Or.inl ⟨by rfl, fun _ => by go_simp⟩) ?_
  refine wpAny_take (i := 38) (v := (.pointer (some ⟨g, 4, none⟩))) rfl (by kernel_rfl) (by kernel_rfl) (by kernel_rfl) (fun _ _ _ h => h) (Or.inl ⟨by rfl, fun _ => by go_simp⟩) ?_
  refine wpAny_take (i := 39) (v := (.agg #[.pointer none, .pointer none, .pointer none, .pointer (some ⟨g, 4, none⟩)])) rfl (by kernel_rfl) (by kernel_rfl) (by kernel_rfl) (fun _ _ _ h => h) (Or.inl ⟨by rfl, fun _ => by go_simp⟩) ?_
  refine wpAny_take (i := 41) (v := (.pointer (some ⟨g, 0, none⟩))) rfl (by kernel_rfl) (by kernel_rfl) (by kernel_rfl) (fun _ _ _ h => h) (Or.inl ⟨by rfl, fun _ => by go_simp⟩) ?_
  refine wpAny_take (i := 42) (v := (.pointer (some ⟨g, 0, none⟩))) rfl (by kernel_rfl) (by kernel_rfl) (by kernel_rfl) (fun _ _ _ h => h) (Or.inl ⟨by rfl, fun _ => by go_simp⟩) ?_
  refine wpAny_take (i := 43) (v := (.pointer (some ⟨g, 4, none⟩))) rfl (by kernel_rfl) (by kernel_rfl) (by kernel_rfl) (fun _ _ _ h => h) (Or.inl ⟨by rfl, fun _ => by go_simp⟩) ?_
  refine wpAny_take (i := 44) (v := (.pointer (some ⟨g, 0, none⟩))) rfl (by kernel_rfl) (by kernel_rfl) (by kernel_rfl) (fun _ _ _ h => h) (Or.inl ⟨by rfl, fun _ => by go_simp⟩) ?_
  refine wpAny_take (i := 45) (v := (.pointer (some ⟨g, 0, none⟩))) rfl (by kernel_rfl) (by kernel_rfl) (by kernel_rfl) (fun _ _ _ h => h) (Or.inl ⟨by rfl, fun _ => by go_simp⟩) ?_
  refine wpAny_take (i := 46) (v := (.pointer (some ⟨g, 4, none⟩))) rfl (by kernel_rfl) (by kernel_rfl) (by kernel_rfl) (fun _ _ _ h => h) (Or.inl ⟨by rfl, fun _ => by go_simp⟩) ?_
  refine wpAny_take (i := 47) (v := (.agg #[.pointer none, .pointer none, .pointer (some ⟨g, 4, none⟩), .pointer (some ⟨g, 4, none⟩)])) rfl (by kernel_rfl) (by kernel_rfl) (by kernel_rfl) (fun _ _ _ h => h) (Or.inl ⟨by rfl, fun _ => by go_simp⟩) ?_
  refine wpAny_ready (rs := [0]) (by kernel_rfl) (by simp) (AllReady.cons rfl (fun K hK => ?_) AllReady.nil)
  go_simp
  refine hK _ _ ?_
  clear hK K
  refine wpAny_cast (f := 2 + 9) (L := L9 fun _ => false) (by kernel_rfl) (by kernel_rfl) ?_
  refine wpAny_nine (fun b w' => ∃ E n, w' = (w.alloc (.map E n)).drew ∧ Ents g b E) (rdy_of (by kernel_rfl)) ?step ?done 9 (fun _ => false) _ rfl ⟨#[], 0, rfl, fun c => ⟨none, rfl, fun ⟨_, _, _, h⟩ => (by cases h), fun _ => rfl⟩⟩
  case step =>
    intro k hk b w' hS hb
    match k, hk with
    | 0, hk =>
      obtain ⟨E, n, rfl, hE⟩ := hS
      have hput : (Instr.mapUpdate 98 (.map (some w.heap.size)) (.int .u8 1) (.agg #[.pointer (some ⟨g, 0, none⟩), .pointer none, .pointer none, .pointer none])).run Try.prog (w.alloc (.map E n)).drew = .ok () (w.alloc (.map (E.push ⟨.int .u8 (code 0 : Int), useV g (code 0), n⟩) (n + 1))).drew := run_putU w.drew E n 1 (by omega) _ _ (hE.new hk hb) rfl
      have HE := Lib.hid (hE.put hk hb n)
      clear hE
      change wpOp _ _ _ (5 : Nat) _ _ _
      refine wpOp_step rfl (fun K hK => ?_)
      go_simp
      exact hK _ _ ⟨rfl, _, _, rfl, HE.out⟩
    | 1, hk =>
      obtain ⟨E, n, rfl, hE⟩ := hS
      have hput : (Instr.mapUpdate 98 (.map (some w.heap.size)) (.int .u8 2) (.agg #[.pointer (some ⟨g, 2, none⟩), .pointer none, .pointer none, .pointer none])).run Try.prog (w.alloc (.map E n)).drew = .ok () (w.alloc (.map (E.push ⟨.int .u8 (code 1 : Int), useV g (code 1), n⟩) (n + 1))).drew := run_putU w.drew E n 2 (by omega) _ _ (hE.new hk hb) rfl
      have HE := Lib.hid (hE.put hk hb n)
      clear hE
      change wpOp _ _ _ (10 : Nat) _ _ _
      refine wpOp_step rfl (fun K hK => ?_)
      go_simp
      exact hK _ _ ⟨rfl, _, _, rfl, HE.out⟩
    | 2, hk =>
      obtain ⟨E, n, rfl, hE⟩ := hS
      have hput : (Instr.mapUpdate 98 (.map (some w.heap.size)) (.int .u8 3) (.agg #[.pointer none, .pointer none, .pointer (some ⟨g, 4, none⟩), .pointer none])).run Try.prog (w.alloc (.map E n)).drew = .ok () (w.alloc (.map (E.push ⟨.int .u8 (code 2 : Int), useV g (code 2), n⟩) (n + 1))).drew := run_putU w.drew E n 3 (by omega) _ _ (hE.new hk hb) rfl
      have HE := Lib.hid (hE.put hk hb n)
      clear hE
      change wpOp _ _ _ (15 : Nat) _ _ _
      refine wpOp_step rfl (fun K hK => ?_)
      go_simp
      exact hK _ _ ⟨rfl, _, _, rfl, HE.out⟩
    | 3, hk =>
      obtain ⟨E, n, rfl, hE⟩ := hS
      have hput : (Instr.mapUpdate 98 (.map (some w.heap.size)) (.int .u8 4) (.agg #[.pointer none, .pointer none, .pointer (some ⟨g, 6, none⟩), .pointer none])).run Try.prog (w.alloc (.map E n)).drew = .ok () (w.alloc (.map (E.push ⟨.int .u8 (code 3 : Int), useV g (code 3), n⟩) (n + 1))).drew := run_putU w.drew E n 4 (by omega) _ _ (hE.new hk hb) rfl
      have HE := Lib.hid (hE.put hk hb n)
      clear hE
      change wpOp _ _ _ (20 : Nat) _ _ _
      refine wpOp_step rfl (fun K hK => ?_)
      go_simp
      exact hK _ _ ⟨rfl, _, _, rfl, HE.out⟩
    | 4, hk =>
      obtain ⟨E, n, rfl, hE⟩ := hS
      have hput : (Instr.mapUpdate 98 (.map (some w.heap.size)) (.int .u8 5) (.agg #[.pointer none, .pointer (some ⟨g, 0, none⟩), .pointer none, .pointer none])).run Try.prog (w.alloc (.map E n)).drew = .ok () (w.alloc (.map (E.push ⟨.int .u8 (code 4 : Int), useV g (code 4), n⟩) (n + 1))).drew := run_putU w.drew E n 5 (by omega) _ _ (hE.new hk hb) rfl
      have HE := Lib.hid (hE.put hk hb n)
      clear hE
      change wpOp _ _ _ (25 : Nat) _ _ _
      refine wpOp_step rfl (fun K hK => ?_)
      go_simp
      exact hK _ _ ⟨rfl, _, _, rfl, HE.out⟩
    | 5, hk =>
      obtain ⟨E, n, rfl, hE⟩ := hS
      have hput : (Instr.mapUpdate 98 (.map (some w.heap.size)) (.int .u8 6) (.agg #[.pointer none, .pointer none, .pointer none, .pointer (some ⟨g, 4, none⟩)])).run Try.prog (w.alloc (.map E n)).drew = .ok () (w.alloc (.map (E.push ⟨.int .u8 (code 5 : Int), useV g (code 5), n⟩) (n + 1))).drew := run_putU w.drew E n 6 (by omega) _ _ (hE.new hk hb) rfl
      have HE := Lib.hid (hE.put hk hb n)
      clear hE
      change wpOp _ _ _ (30 : Nat) _ _ _
      refine wpOp_step rfl (fun K hK => ?_)
      go_simp
      exact hK _ _ ⟨rfl, _, _, rfl, HE.out⟩
    | 6, hk =>
      obtain ⟨E, n, rfl, hE⟩ := hS
      have hput : (Instr.mapUpdate 98 (.map (some w.heap.size)) (.int .u8 15) (.agg #[.pointer none, .pointer (some ⟨g, 0, none⟩), .pointer none, .pointer none])).run Try.prog (w.alloc (.map E n)).drew = .ok () (w.alloc (.map (E.push ⟨.int .u8 (code 6 : Int), useV g (code 6), n⟩) (n + 1))).drew := run_putU w.drew E n 15 (by omega) _ _ (hE.new hk hb) rfl
      have HE := Lib.hid (hE.put hk hb n)
      clear hE
      change wpOp _ _ _ (35 : Nat) _ _ _
      refine wpOp_step rfl (fun K hK => ?_)
      go_simp
      exact hK _ _ ⟨rfl, _, _, rfl, HE.out⟩
    | 7, hk =>
      obtain ⟨E, n, rfl, hE⟩ := hS
      have hput : (Instr.mapUpdate 98 (.map (some w.heap.size)) (.int .u8 16) (.agg #[.pointer none, .pointer none, .pointer none, .pointer (some ⟨g, 4, none⟩)])).run Try.prog (w.alloc (.map E n)).drew = .ok () (w.alloc (.map (E.push ⟨.int .u8 (code 7 : Int), useV g (code 7), n⟩) (n + 1))).drew := run_putU w.drew E n 16 (by omega) _ _ (hE.new hk hb) rfl
      have HE := Lib.hid (hE.put hk hb n)
      clear hE
      change wpOp _ _ _ (40 : Nat) _ _ _
      refine wpOp_step rfl (fun K hK => ?_)
      go_simp
      exact hK _ _ ⟨rfl, _, _, rfl, HE.out⟩
    | 8, hk =>
      obtain ⟨E, n, rfl, hE⟩ := hS
      have hput : (Instr.mapUpdate 98 (.map (some w.heap.size)) (.int .u8 23) (.agg #[.pointer none, .pointer none, .pointer (some ⟨g, 4, none⟩), .pointer (some ⟨g, 4, none⟩)])).run Try.prog (w.alloc (.map E n)).drew = .ok () (w.alloc (.map (E.push ⟨.int .u8 (code 8 : Int), useV g (code 8), n⟩) (n + 1))).drew := run_putU w.drew E n 23 (by omega) _ _ (hE.new hk hb) rfl
      have HE := Lib.hid (hE.put hk hb n)
      clear hE
      change wpOp _ _ _ (48 : Nat) _ _ _
      refine wpOp_step rfl (fun K hK => ?_)
      go_simp
      exact hK _ _ ⟨rfl, _, _, rfl, HE.out⟩
  case done =>
    intro b w' hS hall
    obtain ⟨E, n, rfl, hE⟩ := hS
    have eL : L9 b = L9 (fun _ => true) := by
      unfold L9 at9
      congr 1
      funext j
      congr 1
      rw [Bool.eq_iff_iff, List.any_eq_true, List.any_eq_true]
      exact ⟨fun ⟨k, hk, h⟩ => ⟨k, hk, by rw [Bool.and_eq_true] at h ⊢; exact ⟨h.1, rfl⟩⟩, fun ⟨k, hk, h⟩ => ⟨k, hk, by rw [Bool.and_eq_true] at h ⊢; exact ⟨h.1, hall k (List.mem_range.1 hk)⟩⟩⟩
    have HE : Hid (UseMap g E) := Lib.hid fun c => by
      obtain ⟨r, hr, h1, h2⟩ := hE c
      exact ⟨r, hr, fun ⟨k, hk, hc, _⟩ => h1 ⟨k, hk, hc, hall k hk⟩, fun h => h2 fun k hk hc => (by cases h k hk hc)⟩
    clear hE hall
    rw [eL]
    refine wpAny_take (i := 49) (v := .map (some w.heap.size)) rfl (by kernel_rfl) (by kernel_rfl) (by kernel_rfl) (fun _ _ _ h => h) (Or.inl ⟨by rfl, fun _ => by go_simp⟩) ?_
    refine wpAny_take (i := 50) (v := .map (some w.heap.size)) rfl (by kernel_rfl) (by kernel_rfl) (by kernel_rfl) (fun _ _ _ h => h) (Or.inl ⟨by rfl, fun _ => by go_simp⟩) ?_
    refine wpAny_done (by kernel_rfl) ?_ _
    go_wp2_with fail
    go_ret
    exact ⟨rfl, E, n, 1, rfl, HE.out⟩
end Go.Proofs.Ytamdpinfbadflaa.ModW

/- Whether a request reads and writes only where it may; what is wrong with it. -/
open Go.RowKit
namespace Go.Proofs.Ytamdpinfbadflaa.ModW
open AskM ReplyM ModM Mem AskW

/-- The four tables lie in block g. -/
structure SrvAt (w : World) (g : Nat) (s : Sp) (m : Me) (p q : Pl) : Prop where
  row : w.heap[g]? = some (.cells (srvC s m p q) 67 (0, 0))
  sp : SpAt w w.heap.size s p
  me : MeAt w w.heap.size m q
section
variable {w w' : World} {g : Nat} {s : Sp} {m : Me} {p q : Pl}
theorem SrvAt.lt (h : SrvAt w g s m p q) : g < w.heap.size := (Array.getElem?_eq_some_iff.1 h.row).1
theorem SrvAt.on (h : SrvAt w g s m p q) (hb : Below w.heap.size w w') : SrvAt w' g s m p q := ⟨(hb.block g h.lt).trans h.row, h.sp.on hb, h.me.on hb⟩
theorem SrvAt.areas (h : SrvAt w g s m p q) (k : Nat) (hk : k < 4) : ∃ a c, w.cell? ⟨g, 2 * k, none⟩ = some (.slice a (s.tab k).length c) ∧ ArsAt w w.heap.size a (s.tab k).length c (s.tab k) := by
  match k, hk with
  | 0, _ => exact ⟨_, _, cell_of_row _ _ _ _ _ _ h.row, h.sp.coils⟩
  | 1, _ => exact ⟨_, _, cell_of_row _ _ _ _ _ _ h.row, h.sp.inputs⟩
  | 2, _ => exact ⟨_, _, cell_of_row _ _ _ _ _ _ h.row, h.sp.holding⟩
  | 3, _ => exact ⟨_, _, cell_of_row _ _ _ _ _ _ h.row, h.sp.words⟩
theorem mayR_bits (h : SrvAt w g s m p q) (k : Option Nat) (hk : k = none ∨ k = some 0 ∨ k = some 1) (at_ n : Nat) (hat : at_ ≤ 65535) (hn : n ≤ 65535) :
    Calls Try.prog 51 #[.pointer (ptr g k), .int .i64 (at_ : Int), .int .i64 (n : Int)] w (Says (.bool (mayR s k at_ n)) w) := by
  rcases hk with rfl | rfl | rfl
  · exact readable_nil_bits at_ n w
  · obtain ⟨a, c, h1, h2⟩ := h.areas 0 (by omega)
    exact readable_bits g 0 a _ c _ at_ n w h.lt hat hn h1 h2
  · obtain ⟨a, c, h1, h2⟩ := h.areas 1 (by omega)
    exact readable_bits g 2 a _ c _ at_ n w h.lt hat hn h1 h2
theorem mayR_regs (h : SrvAt w g s m p q) (k : Option Nat) (hk : k = none ∨ k = some 2 ∨ k = some 3) (at_ n : Nat) (hat : at_ ≤ 65535) (hn : n ≤ 65535) :
    Calls Try.prog 52 #[.pointer (ptr g k), .int .i64 (at_ : Int), .int .i64 (n : Int)] w (Says (.bool (mayR s k at_ n)) w) := by
  rcases hk with rfl | rfl | rfl
  · exact readable_nil_regs at_ n w
  · obtain ⟨a, c, h1, h2⟩ := h.areas 2 (by omega)
    exact readable_regs g 4 a _ c _ at_ n w h.lt hat hn h1 h2
  · obtain ⟨a, c, h1, h2⟩ := h.areas 3 (by omega)
    exact readable_regs g 6 a _ c _ at_ n w h.lt hat hn h1 h2
theorem mayW_bits (h : SrvAt w g s m p q) (k : Option Nat) (hk : k = none ∨ k = some 0) (at_ n : Nat) (hat : at_ ≤ 65535) (hn : n ≤ 65535) :
    Calls Try.prog 53 #[.pointer (ptr g k), .int .i64 (at_ : Int), .int .i64 (n : Int)] w (Says (.bool (mayW s k at_ n)) w) := by
  rcases hk with rfl | rfl
  · exact writable_nil_bits at_ n w
  · obtain ⟨a, c, h1, h2⟩ := h.areas 0 (by omega)
    exact writable_bits g 0 a _ c _ at_ n w h.lt hat hn h1 h2
theorem mayW_regs (h : SrvAt w g s m p q) (k : Option Nat) (hk : k = none ∨ k = some 2) (at_ n : Nat) (hat : at_ ≤ 65535) (hn : n ≤ 65535) :
    Calls Try.prog 54 #[.pointer (ptr g k), .int .i64 (at_ : Int), .int .i64 (n : Int)] w (Says (.bool (mayW s k at_ n)) w) := by
  rcases hk with rfl | rfl
  · exact writable_nil_regs at_ n w
  · obtain ⟨a, c, h1, h2⟩ := h.areas 2 (by omega)
    exact writable_regs g 4 a _ c _ at_ n w h.lt hat hn h1 h2
end
theorem br_cases (c : Nat) : brN c = none ∨ brN c = some 0 ∨ brN c = some 1 := by
  unfold brN
  split
  · exact .inr (.inl rfl)
  · split
    · exact .inr (.inr rfl)
    · exact .inl rfl
theorem wr_cases (c : Nat) : wrN c = none ∨ wrN c = some 2 ∨ wrN c = some 3 := by
  unfold wrN
  split
  · exact .inr (.inl rfl)
  · split
    · exact .inr (.inr rfl)
    · split
      · exact .inr (.inl rfl)
      · exact .inl rfl
theorem bw_cases (c : Nat) : bwN c = none ∨ bwN c = some 0 := by
  unfold bwN
  split
  · exact .inr rfl
  · split
    · exact .inr rfl
    · exact .inl rfl
theorem ww_cases (c : Nat) : wwN c = none ∨ wwN c = some 2 := by
  unfold wwN
  split
  · exact .inr rfl
  · split
    · exact .inr rfl
    · split
      · exact .inr rfl
      · exact .inl rfl
/-- The map of uses, wherever it lies. -/
def MapIs (g : Nat) (w : World) (e : Ending) (w' : World) : Prop := ∃ b, e = .returned (.map (some b)) ∧ b < w'.heap.size ∧ Below w.heap.size w w' ∧
  ∀ W, Below w'.heap.size w' W → ∀ c : Nat, c < 256 → (Instr.lookup 98 (.map (some b)) (.int .u8 (c : Int)) false).run Try.prog W = .ok (useV g c) W
theorem uses_at (g : Nat) (w : World) (hg : g < w.heap.size) :
    Calls Try.prog 44 #[.pointer (some ⟨g, 0, none⟩)] w (MapIs g w) := by
  refine (uses_any g w hg).mono ?_
  rintro e w' ⟨rfl, E, n, q, rfl, hE⟩
  refine ⟨_, rfl, (by show w.heap.size < (w.alloc (.map E n)).heap.size; simp), below_drawn ((Below.refl _ _).alloc (Nat.le_refl _) _) q, fun W hb c hc => ?_⟩
  have hm : ((w.alloc (.map E n)).drewN q).heap[w.heap.size]? = some (.map E n) := heap_alloc_new w _
  have hlt : w.heap.size < ((w.alloc (.map E n)).drewN q).heap.size := by show w.heap.size < (w.alloc (.map E n)).heap.size; simp
  exact run_use W _ n g E hE ((hb.block _ hlt).trans hm) c hc
theorem target_lt (a : Req) : targetN a ≤ 65535 := by
  have h1 := a.to_.toNat_lt
  have h2 := a.at_.toNat_lt
  unfold targetN
  split <;> omega

/-- The cells of a block, whatever comes behind. -/
structure Row6 (W : World) (g : Nat) (c : Array Value) : Prop where
  row : W.heap[g]? = some (.cells c 31 (0, 0))
theorem Row6.lt {W : World} {g : Nat} {c : Array Value} (h : Row6 W g c) : g < W.heap.size := (Array.getElem?_eq_some_iff.1 h.row).1
theorem Row6.on {W W' : World} {g : Nat} {c : Array Value} (h : Row6 W g c) (hb : Below W.heap.size W W') : Row6 W' g c := ⟨(hb.block g h.lt).trans h.row⟩
theorem Row6.c {W : World} {g : Nat} {c : Array Value} (h : Row6 W g c) (i : Nat) : W.cell? ⟨g, i, none⟩ = c[i]? := cell_of_row _ _ _ _ _ _ h.row
theorem Row6.all {W : World} {g : Nat} {c0 c1 c2 c3 c4 c5 : Value} (h : Row6 W g #[c0, c1, c2, c3, c4, c5]) :
    W.cell? ⟨g, 0, none⟩ = some c0 ∧ W.cell? ⟨g, 1, none⟩ = some c1 ∧ W.cell? ⟨g, 2, none⟩ = some c2 ∧ W.cell? ⟨g, 3, none⟩ = some c3 ∧ W.cell? ⟨g, 4, none⟩ = some c4 ∧ W.cell? ⟨g, 5, none⟩ = some c5 := ⟨h.c 0, h.c 1, h.c 2, h.c 3, h.c 4, h.c 5⟩
/-- Behind the region: the request's box, and the row of pointers. -/
structure AL (w W : World) (c : Array Value) (b : Nat) (u : Array Value) : Prop where
  below : Below w.heap.size w W
  ask : Row6 W w.heap.size c
  use : W.heap[b]? = some (.cells u 97 (0, 0))
  gt : w.heap.size < b
theorem AL.on {w W W' : World} {c u : Array Value} {b : Nat} (h : AL w W c b u) (hb : Below W.heap.size W W') : AL w W' c b u :=
  ⟨h.below.trans (hb.mono h.below.size), h.ask.on hb, (hb.block b (Array.getElem?_eq_some_iff.1 h.use).1).trans h.use, h.gt⟩
/-- The row of four pointers, laid and filled. -/
theorem AL.fill {w W : World} {c : Array Value} {b : Nat} {u1 u2 u3 u4 : Value} (hb : Below w.heap.size w W) (ha : Row6 W w.heap.size c) (hz : W.heap[b]? = some (.cells #[.pointer none, .pointer none, .pointer none, .pointer none] 97 (0, 0))) (hlt : w.heap.size < b) :
    AL w ((((W.setCell ⟨b, 0, none⟩ u1).setCell ⟨b, 1, none⟩ u2).setCell ⟨b, 2, none⟩ u3).setCell ⟨b, 3, none⟩ u4) c b #[u1, u2, u3, u4] := by
  have hne : w.heap.size ≠ b := by omega
  refine ⟨(((hb.setCell (p := ⟨b, 0, none⟩) (by show _ ≤ b; omega) u1).setCell (p := ⟨b, 1, none⟩) (by show _ ≤ b; omega) u2).setCell (p := ⟨b, 2, none⟩) (by show _ ≤ b; omega) u3).setCell (p := ⟨b, 3, none⟩) (by show _ ≤ b; omega) u4, ⟨?_⟩, ?_, hlt⟩
  · rw [Below.heap_setCell _ _ _ _ hne, Below.heap_setCell _ _ _ _ hne, Below.heap_setCell _ _ _ _ hne, Below.heap_setCell _ _ _ _ hne]
    exact ha.row
  · exact heap_setCell_same _ _ _ _ _ _ (heap_setCell_same _ _ _ _ _ _ (heap_setCell_same _ _ _ _ _ _ (heap_setCell_same _ _ _ _ _ _ hz)))
theorem AL.lay {w W : World} {c : Array Value} {u : Array Value} (hb : Below w.heap.size w W) (ha : Row6 W w.heap.size c) : AL w (W.alloc (.cells u 97)) c W.heap.size u :=
  ⟨hb.alloc hb.size _, ha.on ((Below.refl _ _).alloc (Nat.le_refl _) _), heap_alloc_new W _, ha.lt⟩
theorem AL.ptrs {w W : World} {c : Array Value} {b : Nat} {u1 u2 u3 u4 : Value} (h : AL w W c b #[u1, u2, u3, u4]) : W.cell? ⟨b, 0, none⟩ = some u1 ∧ W.cell? ⟨b, 1, none⟩ = some u2 ∧ W.cell? ⟨b, 2, none⟩ = some u3 ∧ W.cell? ⟨b, 3, none⟩ = some u4 :=
  ⟨cell_of_row _ _ _ _ _ _ h.use, cell_of_row _ _ _ _ _ _ h.use, cell_of_row _ _ _ _ _ _ h.use, cell_of_row _ _ _ _ _ _ h.use⟩
theorem four_cells {W : World} {b : Nat} (hz : W.heap[b]? = some (.cells #[.pointer none, .pointer none, .pointer none, .pointer none] 97 (0, 0))) : W.cell? ⟨b, 0, none⟩ = some (.pointer none) ∧ W.cell? ⟨b, 1, none⟩ = some (.pointer none) ∧ W.cell? ⟨b, 2, none⟩ = some (.pointer none) ∧ W.cell? ⟨b, 3, none⟩ = some (.pointer none) ∧ ∀ i, W.frozen? ⟨b, i, none⟩ = false :=
  ⟨cell_of_row _ _ _ _ _ _ hz, cell_of_row _ _ _ _ _ _ hz, cell_of_row _ _ _ _ _ _ hz, cell_of_row _ _ _ _ _ _ hz, fun _ => frozen_of_row _ _ _ _ _ hz⟩
set_option maxRecDepth 100000 in
set_option maxHeartbeats 4000000 in
theorem allows_any (s : Sp) (m : Me) (p q : Pl) (g : Nat) (a : Req) (aw : Option Addr) (cw : Nat) (ab : Option Addr) (cb : Nat) (w : World) (hS : SrvAt w g s m p q) (hw : a.words.length ≤ 65535) (hbl : a.bits.length ≤ 65535) :
    Calls Try.prog 28 #[.pointer (some ⟨g, 0, none⟩), askV a aw cw ab cb] w (Says (.bool (allowsN s a)) w) := by
  have HS := Lib.hid hS
  have htl := target_lt a
  have hT := fun W => target_any a aw cw ab cb W
  have HV : Hid (allowsN s a = (mayR s (brN a.fn.toNat) a.at_.toNat a.many.toNat && mayR s (wrN a.fn.toNat) a.at_.toNat a.many.toNat && mayW s (bwN a.fn.toNat) (targetN a) a.bits.length && mayW s (wwN a.fn.toNat) (targetN a) a.words.length)) := Lib.hid rfl
  have hf := a.fn.toNat_lt
  generalize targetN a = tg at *
  obtain ⟨fn, at_, many, to_, words, bits⟩ := a
  simp only at *
  have hat := at_.toNat_lt
  have hmany := many.toNat_lt
  have hto := to_.toNat_lt
  have hb0 : Below w.heap.size w (w.alloc (.cells #[b8 fn, b16 at_, b16 many, b16 to_, .slice aw words.length cw, .slice ab bits.length cb] 31)) := (Below.refl _ _).alloc (Nat.le_refl _) _
  have hrow : (w.alloc (.cells #[b8 fn, b16 at_, b16 many, b16 to_, .slice aw words.length cw, .slice ab bits.length cb] 31)).heap[w.heap.size]? = some (.cells #[b8 fn, b16 at_, b16 many, b16 to_, .slice aw words.length cw, .slice ab bits.length cb] 31 (0, 0)) := heap_alloc_new w _
  have HT := Lib.hid hT
  clear hT hS
  go_enter Try.func28, Try.ntmps28
  go_wp2_with fail
  have hsz : w.heap.size < (w.alloc (.cells #[b8 fn, b16 at_, b16 many, b16 to_, .slice aw words.length cw, .slice ab bits.length cb] 31)).heap.size := by simp
  generalize hg0 : w.alloc (.cells #[b8 fn, b16 at_, b16 many, b16 to_, .slice aw words.length cw, .slice ab bits.length cb] 31) = W0 at *
  clear hg0
  obtain ⟨u1, hu1⟩ : ∃ u, u = ptr g (brN fn.toNat) := ⟨_, rfl⟩
  obtain ⟨u2, hu2⟩ : ∃ u, u = ptr g (bwN fn.toNat) := ⟨_, rfl⟩
  obtain ⟨u3, hu3⟩ : ∃ u, u = ptr g (wrN fn.toNat) := ⟨_, rfl⟩
  obtain ⟨u4, hu4⟩ : ∃ u, u = ptr g (wwN fn.toNat) := ⟨_, rfl⟩
  have HUV : Hid (useV g fn.toNat = .agg #[.pointer u1, .pointer u2, .pointer u3, .pointer u4]) := Lib.hid (by unfold useV; rw [hu1, hu2, hu3, hu4])
  have HU1 := Lib.hid (And.intro hu1 (And.intro hu2 (And.intro hu3 hu4)))
  clear hu1 hu2 hu3 hu4
  have HR0 : Hid (Row6 W0 w.heap.size #[b8 fn, b16 at_, b16 many, b16 to_, .slice aw words.length cw, .slice ab bits.length cb]) := Lib.hid ⟨hrow⟩
  have HB0 := Lib.hid hb0
  have HUS : Hid (∀ W, Below w.heap.size w W → Calls Try.prog 44 #[.pointer (some ⟨g, 0, none⟩)] W (MapIs g W)) := Lib.hid fun W hb => uses_at g W (Nat.lt_of_lt_of_le HS.out.lt hb.size)
  have hk0 := HR0.out.all
  have hk1 : (W0.drew.cell? ⟨w.heap.size, 0, none⟩ = some (b8 fn) ∧ W0.drew.cell? ⟨w.heap.size, 1, none⟩ = some (b16 at_) ∧ W0.drew.cell? ⟨w.heap.size, 2, none⟩ = some (b16 many) ∧ W0.drew.cell? ⟨w.heap.size, 3, none⟩ = some (b16 to_) ∧ W0.drew.cell? ⟨w.heap.size, 4, none⟩ = some (.slice aw words.length cw) ∧ W0.drew.cell? ⟨w.heap.size, 5, none⟩ = some (.slice ab bits.length cb)) := hk0
  have HRA : Hid (Row6 (W0.alloc (.cells #[.pointer none, .pointer none, .pointer none, .pointer none] 97)).drew w.heap.size #[b8 fn, b16 at_, b16 many, b16 to_, .slice aw words.length cw, .slice ab bits.length cb]) := Lib.hid (HR0.out.on (((Below.refl _ _).alloc (Nat.le_refl _) _).drew))
  have hk2 := HRA.out.all
  have HBA : Hid (Below w.heap.size w (W0.alloc (.cells #[.pointer none, .pointer none, .pointer none, .pointer none] 97)).drew) := Lib.hid ((HB0.out.alloc HB0.out.size _).drew)
  have HBD : Hid (Below w.heap.size w W0.drew) := Lib.hid HB0.out.drew
  have HRD : Hid (Row6 W0.drew w.heap.size #[b8 fn, b16 at_, b16 many, b16 to_, .slice aw words.length cw, .slice ab bits.length cb]) := Lib.hid ⟨HR0.out.row⟩
  have HSZ := Lib.hid hsz
  have hwa : IntKind.i64.wrap (at_.toNat : Int) = (at_.toNat : Int) := wrap64 (by omega) (by omega)
  have hwm : IntKind.i64.wrap (many.toNat : Int) = (many.toNat : Int) := wrap64 (by omega) (by omega)
  clear hb0 hrow hsz
  go_region_held3 (fun w' => w'.cell? ⟨w.heap.size, 0, none⟩ = some (b8 fn) ∧ w'.cell? ⟨w.heap.size, 1, none⟩ = some (b16 at_) ∧ w'.cell? ⟨w.heap.size, 2, none⟩ = some (b16 many) ∧ w'.cell? ⟨w.heap.size, 3, none⟩ = some (b16 to_) ∧ w'.cell? ⟨w.heap.size, 4, none⟩ = some (.slice aw words.length cw) ∧ w'.cell? ⟨w.heap.size, 5, none⟩ = some (.slice ab bits.length cb))
    (first
      | with_reducible exact hk0
      | with_reducible exact hk1
      | with_reducible exact hk2
      | with_reducible exact hkU
      | with_reducible exact hkUA
      | with_reducible exact hkT
      | with_reducible exact hkTA
      | with_reducible exact hkS
      | go_keep)
    (first
      | (revert HBD; intro HBD; go_at_call 44; (with_reducible refine (HUS.out W0.drew HBD.out).mono ?_); rintro e wU ⟨b, rfl, hbl, hbw, hlk⟩; have HRU := Lib.hid (HRD.out.on hbw); have hkU := HRU.out.all; have HBU := Lib.hid (HBD.out.trans (hbw.mono HBD.out.size)); have HLK := Lib.hid hlk; have hl0 := hlk wU (Below.refl _ _) fn.toNat hf; have hl1 := hlk (wU.alloc (.cells #[.pointer none, .pointer none, .pointer none, .pointer none] 97)) ((Below.refl _ _).alloc (Nat.le_refl _) _) fn.toNat hf; rw [HUV.out] at hl0 hl1; have HRUA : Hid (Row6 (wU.alloc (.cells #[.pointer none, .pointer none, .pointer none, .pointer none] 97)) w.heap.size #[b8 fn, b16 at_, b16 many, b16 to_, .slice aw words.length cw, .slice ab bits.length cb]) := Lib.hid (HRU.out.on ((Below.refl _ _).alloc (Nat.le_refl _) _)); have hkUA := HRUA.out.all; clear hlk hbw HBD)
      | (revert HBA; intro HBA; go_at_call 44; (with_reducible refine (HUS.out _ HBA.out).mono ?_); rintro e wU ⟨b, rfl, hbl, hbw, hlk⟩; have HRU := Lib.hid (HRA.out.on hbw); have hkU := HRU.out.all; have HBU := Lib.hid (HBA.out.trans (hbw.mono HBA.out.size)); have HLK := Lib.hid hlk; have hl0 := hlk wU (Below.refl _ _) fn.toNat hf; rw [HUV.out] at hl0; have hrU : Hid (wU.heap[W0.heap.size]? = some (.cells #[.pointer none, .pointer none, .pointer none, .pointer none] 97 (0, 0))) := Lib.hid ((hbw.block _ (by simp)).trans (show (W0.alloc (.cells #[.pointer none, .pointer none, .pointer none, .pointer none] 97)).drew.heap[W0.heap.size]? = _ from heap_alloc_new W0 _)); clear hlk hbw HBA)
      | (revert hrU; intro hrU; go_at_call 45; (with_reducible refine (HT.out wU).mono ?_); rintro e wT ⟨rfl, hbT⟩; have HRT := Lib.hid (HRU.out.on hbT); have hkT := HRT.out.all; have HBT := Lib.hid (HBU.out.trans (hbT.mono HBU.out.size)); have hl2 := HLK.out wT hbT fn.toNat hf; rw [HUV.out] at hl2; have hrT : Hid (wT.heap[W0.heap.size]? = some (.cells #[.pointer none, .pointer none, .pointer none, .pointer none] 97 (0, 0))) := Lib.hid ((hbT.block _ (Array.getElem?_eq_some_iff.1 hrU.out).1).trans hrU.out); obtain ⟨hv0, hv1, hv2, hv3, hz0⟩ := four_cells hrT.out; have HAL := Lib.hid (AL.fill (u1 := .pointer u1) (u2 := .pointer u2) (u3 := .pointer u3) (u4 := .pointer u4) HBT.out HRT.out hrT.out HSZ.out); have hkS := HAL.out.ask.all; clear hbT hrU HRU)
      | (revert HRU; intro HRU; go_at_call 45; (with_reducible refine (HT.out wU).mono ?_); rintro e wT ⟨rfl, hbT⟩; have HRT := Lib.hid (HRU.out.on hbT); have hkT := HRT.out.all; have HBT := Lib.hid (HBU.out.trans (hbT.mono HBU.out.size)); have hl2 := HLK.out wT hbT fn.toNat hf; have hl3 := HLK.out (wT.alloc (.cells #[.pointer none, .pointer none, .pointer none, .pointer none] 97)) (hbT.alloc hbT.size _) fn.toNat hf; rw [HUV.out] at hl2 hl3; have HRTA : Hid (Row6 (wT.alloc (.cells #[.pointer none, .pointer none, .pointer none, .pointer none] 97)) w.heap.size #[b8 fn, b16 at_, b16 many, b16 to_, .slice aw words.length cw, .slice ab bits.length cb]) := Lib.hid (HRT.out.on ((Below.refl _ _).alloc (Nat.le_refl _) _)); have hkTA := HRTA.out.all; have HAL := Lib.hid (AL.lay (u := #[.pointer u1, .pointer u2, .pointer u3, .pointer u4]) HBT.out HRT.out); have hkS := HAL.out.ask.all; clear hbT HRU)
      | (revert HRUA; intro HRUA; go_at_call 45; (with_reducible refine (HT.out (wU.alloc (.cells #[.pointer none, .pointer none, .pointer none, .pointer none] 97))).mono ?_); rintro e wT ⟨rfl, hbT⟩; have HRT := Lib.hid (HRUA.out.on hbT); have hkT := HRT.out.all; have HBT := Lib.hid ((HBU.out.alloc HBU.out.size (.cells #[.pointer none, .pointer none, .pointer none, .pointer none] 97)).trans (hbT.mono (by have := HBU.out.size; simp; omega))); have hl2 := HLK.out wT (((Below.refl wU.heap.size wU).alloc (Nat.le_refl _) (.cells #[.pointer none, .pointer none, .pointer none, .pointer none] 97)).trans (hbT.mono (by simp))) fn.toNat hf; rw [HUV.out] at hl2; have hrT : Hid (wT.heap[wU.heap.size]? = some (.cells #[.pointer none, .pointer none, .pointer none, .pointer none] 97 (0, 0))) := Lib.hid ((hbT.block _ (by simp)).trans (heap_alloc_new wU _)); obtain ⟨hv0, hv1, hv2, hv3, hz0⟩ := four_cells hrT.out; have HAL := Lib.hid (AL.fill (u1 := .pointer u1) (u2 := .pointer u2) (u3 := .pointer u3) (u4 := .pointer u4) HBT.out HRT.out hrT.out HRU.out.lt); have hkS := HAL.out.ask.all; clear hbT HRUA))
  all_goals
    clear hk0 hk1 hkS hkT HR0 HRA HRD HUS HLK HRT HBT HSZ HUV
    first
      | (have HQ : Hid (AL w (wT.alloc (.cells #[.pointer u1, .pointer u2, .pointer u3, .pointer u4] 97)) #[b8 fn, b16 at_, b16 many, b16 to_, .slice aw words.length cw, .slice ab bits.length cb] (wT.heap.size) #[.pointer u1, .pointer u2, .pointer u3, .pointer u4]) := (by with_reducible exact HAL); clear HAL; generalize wT.alloc (.cells #[.pointer u1, .pointer u2, .pointer u3, .pointer u4] 97) = WE at *; generalize wT.heap.size = bz at *)
      | (have HQ : Hid (AL w ((((wT.setCell ⟨wU.heap.size, 0, none⟩ (.pointer u1)).setCell ⟨wU.heap.size, 1, none⟩ (.pointer u2)).setCell ⟨wU.heap.size, 2, none⟩ (.pointer u3)).setCell ⟨wU.heap.size, 3, none⟩ (.pointer u4)) #[b8 fn, b16 at_, b16 many, b16 to_, .slice aw words.length cw, .slice ab bits.length cb] (wU.heap.size) #[.pointer u1, .pointer u2, .pointer u3, .pointer u4]) := (by with_reducible exact HAL); clear HAL; generalize ((((wT.setCell ⟨wU.heap.size, 0, none⟩ (.pointer u1)).setCell ⟨wU.heap.size, 1, none⟩ (.pointer u2)).setCell ⟨wU.heap.size, 2, none⟩ (.pointer u3)).setCell ⟨wU.heap.size, 3, none⟩ (.pointer u4)) = WE at *; generalize wU.heap.size = bz at *)
      | (have HQ : Hid (AL w ((((wT.setCell ⟨W0.heap.size, 0, none⟩ (.pointer u1)).setCell ⟨W0.heap.size, 1, none⟩ (.pointer u2)).setCell ⟨W0.heap.size, 2, none⟩ (.pointer u3)).setCell ⟨W0.heap.size, 3, none⟩ (.pointer u4)) #[b8 fn, b16 at_, b16 many, b16 to_, .slice aw words.length cw, .slice ab bits.length cb] (W0.heap.size) #[.pointer u1, .pointer u2, .pointer u3, .pointer u4]) := (by with_reducible exact HAL); clear HAL; generalize ((((wT.setCell ⟨W0.heap.size, 0, none⟩ (.pointer u1)).setCell ⟨W0.heap.size, 1, none⟩ (.pointer u2)).setCell ⟨W0.heap.size, 2, none⟩ (.pointer u3)).setCell ⟨W0.heap.size, 3, none⟩ (.pointer u4)) = WE at *; generalize W0.heap.size = bz at *)
    have HL0 : Hid (AL w WE #[b8 fn, b16 at_, b16 many, b16 to_, .slice aw words.length cw, .slice ab bits.length cb] bz #[.pointer u1, .pointer u2, .pointer u3, .pointer u4]) := HQ
    clear HQ
    have HS2 := fun W (h : AL w W #[b8 fn, b16 at_, b16 many, b16 to_, .slice aw words.length cw, .slice ab bits.length cb] bz #[.pointer u1, .pointer u2, .pointer u3, .pointer u4]) => HS.out.on h.below
    have HC1 : Hid (∀ W, AL w W #[b8 fn, b16 at_, b16 many, b16 to_, .slice aw words.length cw, .slice ab bits.length cb] bz #[.pointer u1, .pointer u2, .pointer u3, .pointer u4] → Calls Try.prog 51 #[.pointer u1, .int .i64 (at_.toNat : Int), .int .i64 (many.toNat : Int)] W (Says (.bool (mayR s (brN fn.toNat) at_.toNat many.toNat)) W)) := Lib.hid fun W h => by rw [HU1.out.1]; exact mayR_bits (HS2 W h) _ (br_cases _) _ _ (by omega) (by omega)
    have HC2 : Hid (∀ W, AL w W #[b8 fn, b16 at_, b16 many, b16 to_, .slice aw words.length cw, .slice ab bits.length cb] bz #[.pointer u1, .pointer u2, .pointer u3, .pointer u4] → Calls Try.prog 52 #[.pointer u3, .int .i64 (at_.toNat : Int), .int .i64 (many.toNat : Int)] W (Says (.bool (mayR s (wrN fn.toNat) at_.toNat many.toNat)) W)) := Lib.hid fun W h => by rw [HU1.out.2.2.1]; exact mayR_regs (HS2 W h) _ (wr_cases _) _ _ (by omega) (by omega)
    have HC3 : Hid (∀ W, AL w W #[b8 fn, b16 at_, b16 many, b16 to_, .slice aw words.length cw, .slice ab bits.length cb] bz #[.pointer u1, .pointer u2, .pointer u3, .pointer u4] → Calls Try.prog 53 #[.pointer u2, .int .i64 (tg : Int), .int .i64 (bits.length : Int)] W (Says (.bool (mayW s (bwN fn.toNat) tg bits.length)) W)) := Lib.hid fun W h => by rw [HU1.out.2.1]; exact mayW_bits (HS2 W h) _ (bw_cases _) _ _ (by omega) (by omega)
    have HC4 : Hid (∀ W, AL w W #[b8 fn, b16 at_, b16 many, b16 to_, .slice aw words.length cw, .slice ab bits.length cb] bz #[.pointer u1, .pointer u2, .pointer u3, .pointer u4] → Calls Try.prog 54 #[.pointer u4, .int .i64 (tg : Int), .int .i64 (words.length : Int)] W (Says (.bool (mayW s (wwN fn.toNat) tg words.length)) W)) := Lib.hid fun W h => by rw [HU1.out.2.2.2]; exact mayW_regs (HS2 W h) _ (ww_cases _) _ _ (by omega) (by omega)
    clear HS2 HS HU1
    generalize mayR s (brN fn.toNat) at_.toNat many.toNat = r1 at *
    generalize mayR s (wrN fn.toNat) at_.toNat many.toNat = r2 at *
    generalize mayW s (bwN fn.toNat) tg bits.length = r3 at *
    generalize mayW s (wwN fn.toNat) tg words.length = r4 at *
    obtain ⟨p0, p1, p2, p3⟩ := HL0.out.ptrs
    clear p1 p2 p3
    go_wp2_with fail
    refine (HC1.out WE HL0.out).mono ?_
    rintro e w1 ⟨rfl, hb⟩
    have HL1 := Lib.hid (HL0.out.on hb)
    clear hb p0
    cases r1
    case false =>
      go_wp2_with fail
      go_ret
      exact says_bool (by rw [HV.out]; rfl) HL1.out.below
    obtain ⟨p0, p1, p2, p3⟩ := HL1.out.ptrs
    clear p0 p1 p3
    go_wp2_with fail
    refine (HC2.out w1 HL1.out).mono ?_
    rintro e w2 ⟨rfl, hb⟩
    have HL2 := Lib.hid (HL1.out.on hb)
    clear hb p2
    cases r2
    case false =>
      go_wp2_with fail
      go_ret
      exact says_bool (by rw [HV.out]; rfl) HL2.out.below
    obtain ⟨p0, p1, p2, p3⟩ := HL2.out.ptrs
    obtain ⟨-, -, -, -, -, q5⟩ := HL2.out.ask.all
    clear p0 p2 p3
    go_wp2_with fail
    refine (HC3.out w2 HL2.out).mono ?_
    rintro e w3 ⟨rfl, hb⟩
    have HL3 := Lib.hid (HL2.out.on hb)
    clear hb p1 q5
    cases r3
    case false =>
      go_wp2_with fail
      go_ret
      exact says_bool (by rw [HV.out]; rfl) HL3.out.below
    obtain ⟨p0, p1, p2, p3⟩ := HL3.out.ptrs
    obtain ⟨-, -, -, -, q4, -⟩ := HL3.out.ask.all
    clear p0 p1 p2
    go_wp2_with fail
    refine (HC4.out w3 HL3.out).mono ?_
    rintro e w4 ⟨rfl, hb⟩
    have HL4 := Lib.hid (HL3.out.on hb)
    clear hb p3 q4
    go_wp2_with fail
    go_ret
    exact says_bool (by rw [HV.out]; simp) HL4.out.below
end Go.Proofs.Ytamdpinfbadflaa.ModW

