/- Frames packed, and told. -/
import Derived.Test.YteekdginloljjaaMbPut
open Go.RowKit
namespace Go.Proofs.Yteekdginloljjaa.MbW
open MbM Mem

/-- Bytes in memory of their own, and no error. -/
def Packs (l : List UInt8) (w : World) (e : Ending) (w' : World) : Prop :=
  ∃ a c, e = .returned (.tuple #[.slice a l.length c, .int .i64 0]) ∧ Sl b8 w' w'.heap.size a l.length c l ∧ Below w.heap.size w w' ∧ ∀ y : Addr, a = some y → w.heap.size ≤ y.block
/-- No bytes, and an error. -/
def NoPack (w : World) (e : Ending) (w' : World) : Prop := e = .returned (.tuple #[.slice none 0 0, .int .i64 2]) ∧ Below w.heap.size w w'

abbrev frV (x : Fr) (a : Option Addr) (c : Nat) : Value := .agg (frC x a c)
theorem put_three (x : Fr) : [] ++ putN [x.tx, 0, UInt16.ofNat (1 + x.pdu.length)] ++ [x.unit] ++ x.pdu = packN x ∨ 65535 ≤ x.pdu.length := by
  rcases Nat.lt_or_ge x.pdu.length 65535 with h | h
  · left
    have e : (UInt16.ofNat (1 + x.pdu.length)).toNat = x.pdu.length + 1 := by simp; omega
    unfold packN putN
    simp only [List.flatMap_cons, List.flatMap_nil, e]
    rfl
  · exact .inr h

set_option maxRecDepth 100000 in
set_option maxHeartbeats 1000000 in
theorem Pack_no (x : Fr) (a : Option Addr) (c : Nat) (w : World) (hl : Sl b8 w w.heap.size a x.pdu.length c x.pdu) (hR : ¬ Right x) :
    Calls Try.prog 8 #[frV x a c] w (NoPack w) := by
  have hn := len_le hl
  have hB0 := fun o => (Below.refl w.heap.size w).alloc (Nat.le_refl _) o
  obtain ⟨t, u, p⟩ := x
  have hR' : p.length < 1 ∨ (¬ p.length < 1 ∧ 253 < p.length) := by unfold Right at hR; simp only at hR; omega
  simp only at hl hn
  clear hl hR
  rcases hR' with h | ⟨h, h'⟩
  · have t1 : decide ((p.length : Int) < 1) = true := by simp; omega
    clear h
    go_enter Try.func8, Try.ntmps8
    go_wp2_with fail
    go_ret2
    exact ⟨rfl, hB0 _⟩
  · have t1 : decide ((p.length : Int) < 1) = false := by simp; omega
    have t2 : decide (253 < (p.length : Int)) = true := by simp; omega
    clear h h'
    go_enter Try.func8, Try.ntmps8
    go_wp2_with fail
    go_ret2
    exact ⟨rfl, hB0 _⟩

set_option maxRecDepth 100000 in
set_option maxHeartbeats 1000000 in
theorem Pack_yes (x : Fr) (a : Option Addr) (c : Nat) (w : World) (hl : Sl b8 w w.heap.size a x.pdu.length c x.pdu) (hR : Right x) :
    Calls Try.prog 8 #[frV x a c] w (Packs (packN x) w) := by
  have HP := Lib.hid (show [] ++ putN [x.tx, 0, UInt16.ofNat (1 + x.pdu.length)] ++ [x.unit] ++ x.pdu = packN x by
    rcases put_three x with h | h
    · exact h
    · have := hR.2; omega)
  have h1 := hR.1
  have h2 := hR.2
  obtain ⟨i0, hi, hz0, hz1, hz2⟩ := info_parts info8
  have hz2' : i0.bytes = 1 := hz2
  obtain ⟨t, u, p⟩ := x
  simp only at h1 h2 hl HP ⊢
  have t1 : decide ((p.length : Int) < 1) = false := by simp; omega
  have t2 : decide (253 < (p.length : Int)) = false := by simp; omega
  have ht := t.toNat_lt
  have hu := u.toNat_lt
  have HL := Lib.hid hl
  have HR := Lib.hid hR
  generalize packN ⟨t, u, p⟩ = pk at *
  clear hl hR
  go_enter Try.func8, Try.ntmps8
  go_wp2_with (refine wpList_make_row rfl (.const (.int .i64 0)) (.tmp 18) 23 rfl 5 i0 (.int .u8 0) 1 Try.underlying23 hi hz0 hz1 hz2' rfl .i64 .i64 _ _ 0 (7 + p.length) rfl rfl ?c1 ?c2 (Nat.zero_le _) ?c3 ?c4 ?_)
  case c1 => rfl
  case c2 => omega
  case c3 => omega
  case c4 => omega
  intro w1 h1 hb1 hs1
  have hr := h1.out
  rw [← List.toArray_replicate] at hr
  have hown := own_of_row (w := w1) (g := w.heap.size + 1) (e := 5) (cs := List.replicate (7 + p.length) (.int .u8 0)) hr (n := 0) (Nat.zero_le _) (by simp; unfold maxLen; omega) (base := w.heap.size + 1) (Nat.le_refl _)
  rw [List.length_replicate, List.take_zero] at hown
  have HO := Lib.hid hown
  have HB1 := Lib.hid (((Below.refl w.heap.size w).alloc (Nat.le_refl _) (.cells (frC ⟨t, u, p⟩ a c) 25)).trans (hb1.mono (by omega)))
  have HROW : Hid (w1.heap[w.heap.size]? = some (.cells (frC ⟨t, u, p⟩ a c) 25 (0, 0))) := Lib.hid ((hb1.block _ (by omega)).trans (heap_alloc_new w _))
  have hc0 : w1.cell? ⟨w.heap.size, 0, none⟩ = some (.int .u16 (t.toNat : Int)) := cell_of_row _ _ 0 _ _ _ HROW.out
  have hc1 : w1.cell? ⟨w.heap.size, 1, none⟩ = some (b8 u) := cell_of_row _ _ 1 _ _ _ HROW.out
  have hc2 : w1.cell? ⟨w.heap.size, 2, none⟩ = some (.slice a p.length c) := cell_of_row _ _ 2 _ _ _ HROW.out
  have HS1 := Lib.hid hs1
  have hlt : w.heap.size < w1.heap.size := by omega
  clear h1 hr hb1 hs1 hown
  go_wp2_with fail
  have HV : Hid ((#[.int .u16 (t.toNat : Int), .int .u16 0, .int .u16 (1 + (p.length : Int))] : Array Value).toList = [t, 0, UInt16.ofNat (1 + p.length)].map b16) := Lib.hid (by
    have e : (UInt16.ofNat (1 + p.length)).toNat = 1 + p.length := by simp; omega
    simp only [List.map_cons, List.map_nil, b16, e]
    simp)
  refine (put_any (.slice (some ⟨w.heap.size + 1, 0, none⟩) 0 (7 + p.length)) 0 [] (some ⟨w1.heap.size, 0, none⟩) 3 3 [t, 0, UInt16.ofNat (1 + p.length)] (w.heap.size + 1) _ (HO.out.alloc _) (Sl.new w1 _ _ (0, 0) _ 3 HV.out rfl (by omega)) (fun y hy => by injection hy with hy; subst hy; have := HS1.out; simp [Value.ownBlock]; omega) (by omega) (by have := HS1.out; simp; omega)).mono ?_
  rintro e w2 ⟨v2, rfl, hown2, hg2⟩
  have HG2 := Lib.hid hg2.alloc
  have HO2 := Lib.hid hown2
  have HROW2 : Hid (w2.heap[w.heap.size]? = some (.cells (frC ⟨t, u, p⟩ a c) 25 (0, 0))) := Lib.hid ((HG2.out.grown.block _ hlt (by simp [Value.ownBlock])).trans HROW.out)
  have hd1 : w2.cell? ⟨w.heap.size, 1, none⟩ = some (b8 u) := cell_of_row _ _ 1 _ _ _ HROW2.out
  have hd2 : w2.cell? ⟨w.heap.size, 2, none⟩ = some (.slice a p.length c) := cell_of_row _ _ 2 _ _ _ HROW2.out
  have hz2 := hg2.size
  simp only [World.size_alloc] at hz2
  have HB2 := Lib.hid (Grew.below HB1.out HG2.out (by omega) (fun k hk => by simp [Value.ownBlock] at hk; omega))
  have HLEN : Hid (([] ++ putN [t, 0, UInt16.ofNat (1 + p.length)]).length = 6) := Lib.hid rfl
  rw [HLEN.out] at HO2
  have hnb2 : ∀ k, v2.ownBlock = some k → w.heap.size + 1 ≤ k := fun k hk => (HO2.out.lt k hk).1
  have HN2 := Lib.hid hnb2
  have hlt2 : w.heap.size + 1 < w2.heap.size := by have := HS1.out; omega
  clear hown2 hg2 hc0 hc1 hc2 hnb2 HLEN HO HV
  go_wp2_with (first
    | (at_builtin; refine wpList_append_vals rfl (.tmp 30) (.tmp 33) 23 rfl (w.heap.size + 1) 5 i0 (.int .u8 0) 1 Try.underlying23 hi hz0 hz1 hz2' rfl v2 6 _ rfl (HO2.out.alloc _) ⟨w2.heap.size, 0, none⟩ 1 1 [b8 u] rfl rfl (new_cells w2 #[b8 u] _) (fun y hy => by simp at hy; subst hy; rfl) (by unfold maxLen; omega) (by omega) (by simp; omega) ?_; intro v3 w3 hown3 hg3; have HO3 := Lib.hid hown3; have HG3 := Lib.hid hg3.alloc; have HROW3 : Hid (w3.heap[w.heap.size]? = some (.cells (frC ⟨t, u, p⟩ a c) 25 (0, 0))) := Lib.hid ((HG3.out.grown.block _ (by omega) (fun h => by have := HN2.out _ h.symm; omega)).trans HROW2.out); have he2 : w3.cell? ⟨w.heap.size, 2, none⟩ = some (.slice a p.length c) := cell_of_row _ _ 2 _ _ _ HROW3.out; have hz3 := HG3.out.size; have HB3 := Lib.hid (Grew.below HB2.out HG3.out (by omega) (fun k hk => by have := HN2.out k hk; omega)); clear hown3 hg3 hd1 hd2)
    | (at_builtin; refine wpList_append_list (f := b8) b8_one rfl (.tmp 35) (.tmp 37) 23 rfl (w.heap.size + 1) 5 i0 (.int .u8 0) 1 Try.underlying23 hi hz0 hz1 hz2' rfl v3 7 _ rfl HO3.out a p.length c rfl (B := w.heap.size) (HL.out.below HB3.out (Nat.le_refl _)) (by unfold maxLen; omega) (by omega) (by omega) ?_; intro v4 w4 hown4 hg4; have HO4 := Lib.hid hown4; have HB4 := Lib.hid (Grew.below HB3.out hg4 (by omega) (fun k hk => by have := (HO3.out.lt k hk).1; omega)); clear hown4 hg4))
  go_ret2
  have h := HO4.out
  rw [show List.map b8 ([] ++ putN [t, 0, UInt16.ofNat (1 + p.length)]) ++ [b8 u] ++ List.map b8 p = pk.map b8 by rw [← HP.out]; simp] at h
  obtain ⟨a4, c4, rfl, hs4⟩ := Sl.of_own h
  have hx4 := fun y (hy : a4 = some y) => (h.lt y.block (by rw [hy]; rfl)).1
  have hl4 := hs4.len
  rw [← hl4] at hs4
  refine ⟨a4, c4, by rw [hl4]; rfl, hs4, HB4.out, fun y hy => by have := hx4 y hy; omega⟩

/-- No frame, and an error. -/
def NoParse (w : World) (e : Ending) (w' : World) : Prop := e = .returned (.tuple #[.agg zeroF, .int .i64 10]) ∧ Below w.heap.size w w'
/-- A frame, in memory of its own. -/
def Parses (x : Fr) (w : World) (e : Ending) (w' : World) : Prop :=
  ∃ ap cp, e = .returned (.tuple #[frV x ap cp, .int .i64 0]) ∧ Sl b8 w' w'.heap.size ap x.pdu.length cp x.pdu ∧ Below w.heap.size w w' ∧ ∀ y : Addr, ap = some y → w.heap.size ≤ y.block
theorem results_cell_row_tmp {P : Program} {fn : Func} {p u : Tmp} {ty : TypeId} (h : fn.results = #[.cell p ty, .tmp u]) (tmps : Array Value) (w : World) (g : Nat) (t : TypeId) (cs : Array Value) (fr : Nat × Nat) (d : TypeDesc)
    (hp : tmps.getD p undef = .pointer (some ⟨g, 0, none⟩)) (hg : w.heap[g]? = some (.cells cs t fr))
    (hu : P.underlying ty = some d) (hd : (match d with | .struct _ | .array _ _ => true | _ => false) = true) (hi : (P.info? ty).map (·.size) = some cs.size) (v : Value) (hv : tmps.getD u undef = v) :
    (results fn tmps).run P w = .ok (.tuple #[.agg cs, v]) w := by
  have hp' : tmps[p]?.getD undef = .pointer (some ⟨g, 0, none⟩) := by simpa using hp
  have hv' : tmps[u]?.getD undef = v := by simpa using hv
  simp [results, h, hp', hv', asAddr, run_loadVar_row w g t ty cs fr d hg hu hd hi]
theorem parse_no_first {b : List UInt8} (h : first b = none) : parseN b = none := by unfold parseN; rw [h]
theorem parse_rest {b : List UInt8} {x : Fr} {r : List UInt8} (h : first b = some (x, r)) : parseN b = if r.length = 0 then some x else none := by
  unfold parseN; rw [h]
  cases r with
  | nil => rfl
  | cons _ _ => rfl

set_option maxRecDepth 100000 in
set_option maxHeartbeats 1000000 in
theorem Parse_no (a : Option Addr) (n c : Nat) (b : List UInt8) (w : World) (hl : Sl b8 w w.heap.size a n c b) (hP : parseN b = none) :
    Calls Try.prog 12 #[.slice a n c] w (NoParse w) := by
  have hB0 := fun o => (Below.refl w.heap.size w).alloc (Nat.le_refl _) o
  cases hF : first b with
  | none =>
    have HC := Lib.hid (first_no a n c b (w.alloc (.cells zeroF 25)) ((hl.alloc (Nat.le_refl _) _).more (by simp)) hF)
    clear hF hP hl
    go_enter Try.func12, Try.ntmps12
    go_wp2_with fail
    refine HC.out.mono ?_
    rintro e w1 ⟨rfl, hb1⟩
    have HB := Lib.hid ((hB0 (.cells zeroF 25)).trans (hb1.mono (hB0 _).size))
    have HRow : Hid (w1.heap[w.heap.size]? = some (.cells zeroF 25 (0, 0))) := Lib.hid ((hb1.block _ (by simp)).trans (heap_alloc_new w _))
    have hlt : w.heap.size < w1.heap.size := (Array.getElem?_eq_some_iff.1 HRow.out).1
    have HRow1 := fun o => Lib.hid ((Below.heap_alloc w1 o _ hlt).trans HRow.out)
    have HB1 := fun o => Lib.hid (HB.out.alloc HB.out.size o)
    clear hb1 HC hB0
    go_wp2_with (refine wpList_store_row rfl 25 (.tmp 2) (.tmp 20) rfl w.heap.size zeroF rfl rfl 25 zeroF (HRow1 _).out (by kernel_rfl) (by kernel_rfl) (by kernel_rfl) ?_)
    exact bodyPost_ret (results_cell_row_tmp rfl _ _ w.heap.size 25 _ (0, 0) _ rfl (setRow_heap _ _ _ _ _ _ (HRow1 _).out) Try.underlying25 rfl (by kernel_rfl) _ rfl) rfl ⟨rfl, below_setRow (HB1 _).out (Nat.le_refl _) _⟩
  | some q =>
    obtain ⟨x, r⟩ := q
    have hrl : 0 < r.length := by
      rw [parse_rest hF] at hP
      split at hP
      · cases hP
      · omega
    have HC := Lib.hid (first_yes w.heap.size a n c b (w.alloc (.cells zeroF 25)) (by simp) (hl.alloc (Nat.le_refl _) _) hF)
    have hn := len_le hl
    have hrn : r.length ≤ n := by have := (first_some hF).2; have h2 := hl.len; rw [this, List.length_append] at h2; omega
    clear hF hP hl
    go_enter Try.func12, Try.ntmps12
    go_wp2_with fail
    refine HC.out.mono ?_
    rintro e w1 ⟨ap, cp, ar, cr, rfl, -, -, hb1, -⟩
    have HB := Lib.hid ((hB0 (.cells zeroF 25)).trans (hb1.mono (hB0 _).size))
    have HRow : Hid (w1.heap[w.heap.size]? = some (.cells zeroF 25 (0, 0))) := Lib.hid ((hb1.block _ (by simp)).trans (heap_alloc_new w _))
    have hlt : w.heap.size < w1.heap.size := (Array.getElem?_eq_some_iff.1 HRow.out).1
    have HRow1 := fun o => Lib.hid ((Below.heap_alloc w1 o _ hlt).trans HRow.out)
    have HB1 := fun o => Lib.hid (HB.out.alloc HB.out.size o)
    have t0 : decide (0 < (r.length : Int)) = true := by simp; omega
    have t0' : decide (0 < r.length) = true := by simp; omega
    clear hb1 HC hB0 hrl
    go_wp2_with (refine wpList_store_row rfl 25 (.tmp 2) (.tmp 20) rfl w.heap.size zeroF rfl rfl 25 zeroF (HRow1 _).out (by kernel_rfl) (by kernel_rfl) (by kernel_rfl) ?_)
    exact bodyPost_ret (results_cell_row_tmp rfl _ _ w.heap.size 25 _ (0, 0) _ rfl (setRow_heap _ _ _ _ _ _ (HRow1 _).out) Try.underlying25 rfl (by kernel_rfl) _ rfl) rfl ⟨rfl, below_setRow (HB1 _).out (Nat.le_refl _) _⟩

theorem sl_setRow {α : Type} {f : α → Value} {w : World} {B n c g : Nat} {a : Option Addr} {l : List α} (h : Sl f w B a n c l) (hx : ∀ x : Addr, a = some x → g < x.block) (cs : Array Value) : Sl f (w.setRow g cs) B a n c l := by
  obtain ⟨h1, h2, h3, h5, h4⟩ := h
  refine ⟨h1, h2, h3, h5, fun hn => ?_⟩
  obtain ⟨b, off, e, hb, hc⟩ := h4 hn
  have hg := hx _ e
  simp only at hg
  refine ⟨b, off, e, hb, fun i x hi => ?_⟩
  rw [← hc i x hi]
  exact World.cell?_of_block (w := w) (a := ⟨b, off + i, none⟩) (setRow_other w g b cs (by omega))
theorem Parses.mk {x : Fr} {w w' : World} {ap : Option Addr} {cp : Nat} (hp : Sl b8 w' w'.heap.size ap x.pdu.length cp x.pdu) (hb : Below w.heap.size w w') (hx : ∀ y : Addr, ap = some y → w.heap.size ≤ y.block) : Parses x w (.returned (.tuple #[frV x ap cp, .int .i64 0])) w' := ⟨ap, cp, rfl, hp, hb, hx⟩
set_option maxRecDepth 100000 in
set_option maxHeartbeats 1000000 in
theorem Parse_yes (a : Option Addr) (n c : Nat) (b : List UInt8) (w : World) (hl : Sl b8 w w.heap.size a n c b) {x : Fr} (hP : parseN b = some x) :
    Calls Try.prog 12 #[.slice a n c] w (Parses x w) := by
  have hB0 := fun o => (Below.refl w.heap.size w).alloc (Nat.le_refl _) o
  have hF : first b = some (x, []) := by
    unfold parseN at hP
    split at hP
    · injection hP with hP; subst hP; assumption
    · cases hP
  have HC := Lib.hid (first_yes w.heap.size a n c b (w.alloc (.cells zeroF 25)) (by simp) (hl.alloc (Nat.le_refl _) _) hF)
  obtain ⟨tx, u, p⟩ := x
  clear hF hP hl
  go_enter Try.func12, Try.ntmps12
  go_wp2_with fail
  refine HC.out.mono ?_
  rintro e w1 ⟨ap, cp, ar, cr, rfl, hsp, -, hb1, hxp⟩
  have HB := Lib.hid ((hB0 (.cells zeroF 25)).trans (hb1.mono (hB0 _).size))
  have HRow : Hid (w1.heap[w.heap.size]? = some (.cells zeroF 25 (0, 0))) := Lib.hid ((hb1.block _ (by simp)).trans (heap_alloc_new w _))
  have hlt : w.heap.size < w1.heap.size := (Array.getElem?_eq_some_iff.1 HRow.out).1
  have HRow1 := fun o => Lib.hid ((Below.heap_alloc w1 o _ hlt).trans HRow.out)
  have HB1 := fun o => Lib.hid (HB.out.alloc HB.out.size o)
  have HS1 := fun o => Lib.hid (hsp.alloc (Nat.le_refl _) o)
  have HX := Lib.hid hxp
  clear hb1 HC hB0 hsp hxp
  simp only [List.length_nil]
  go_wp2_with (refine wpList_store_row rfl 25 (.tmp 2) (.tmp 21) rfl w.heap.size (frC ⟨tx, u, p⟩ ap cp) rfl rfl 25 zeroF (HRow1 _).out (by kernel_rfl) (by kernel_rfl) (by kernel_rfl) ?_)
  refine bodyPost_ret (v := .tuple #[frV ⟨tx, u, p⟩ ap cp, .int .i64 0]) (results_cell_row_tmp rfl _ _ w.heap.size 25 _ (0, 0) _ rfl (setRow_heap _ _ _ _ _ _ (HRow1 _).out) Try.underlying25 rfl (by kernel_rfl) _ rfl) rfl ?_
  refine Parses.mk ?_ (below_setRow (HB1 _).out (Nat.le_refl _) _) (fun y hy => by have := HX.out y hy; simp at this; omega)
  refine Sl.more (B := w1.heap.size) (sl_setRow (HS1 _).out (fun y hy => by have := HX.out y hy; simp at this; omega) _) ?_
  simp [World.setRow]
end Go.Proofs.Yteekdginloljjaa.MbW
