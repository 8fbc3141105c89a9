/- A frame, and rows of frames, as a law's arguments. -/
import Derived.Test.YteekdginloljjaaLawKit
import Derived.Test.YteekdginloljjaaMbSame
import Derived.Deep.Grids
import Derived.Deep.Slices
import Derived.SizedLaws
open Go.RowKit Go.ChangeShapes Go.WideShapes Go.ChangeAt
namespace Go.Proofs.Yteekdginloljjaa.Mem
open MbM MbW

/-- Cells at an address, one for each element of a list. -/
theorem sl_at {α : Type} {f : α → Value} {w : World} {x : Addr} {n c : Nat} (l : List α) (hl : l.length = n) (hnc : n ≤ c) (hc : c ≤ maxLen) (h : ∀ i y, l[i]? = some y → w.cell? (x.add i) = some (f y)) : Sl f w w.heap.size (some x) n c l := by
  refine ⟨hl, hnc, hc, (fun h => by cases h), fun hn => ?_⟩
  obtain ⟨y, hy⟩ : ∃ y, l[0]? = some y := ⟨_, List.getElem?_eq_getElem (by omega)⟩
  have h0 := h 0 y hy
  obtain ⟨b, off, spot⟩ := x
  have hspot : spot = none := by simpa [Addr.add] using World.cell?_spot h0
  subst hspot
  have hadd : ∀ i, (⟨b, off, none⟩ : Addr).add i = ⟨b, off + i, none⟩ := fun i => by by_cases h0 : i = 0 <;> simp [Addr.add, h0]
  refine ⟨b, off, rfl, ?_, fun i z hz => ?_⟩
  · have := block_lt_of_cell h0
    simpa [hadd] using this
  · rw [← hadd]; exact h i z hz
theorem open_bytes {H : Type} {enc : TypeId × Value → H} {P : Program} {W : World} {base fuel : Nat} {held : Bool} {T E : TypeId} {v : Value} {x : DataW H × List MemPlace} {spare : Nat → Bool} (hT : P.underlying T = some (.slice E)) (hE : P.underlying E = some (.int .u8)) (hC : P.cellsOf E = 1) (h : DataW.trod enc P W base spare held fuel T [v] = some x) :
    ∃ a n c, ∃ l : List UInt8, v = .slice a n c ∧ Sl b8 W W.heap.size a n c l := by
  rcases open_ints hT hE hC h with ⟨hcs, _⟩ | ⟨a, n, c, zs, hcs, _⟩
  · injection hcs with hcs _
    exact ⟨none, 0, 0, [], hcs, Sl.none_⟩
  · injection hcs with hcs _
    subst hcs
    obtain ⟨l, hl⟩ := open_b8 hT hE hC (a := some a) (n := n) (c := c) (d := x.1) (p := x.2) ⟨fuel, by simpa [Value.cells] using h⟩
    exact ⟨_, n, c, l, rfl, hl⟩
/-- How long a slice is that is read. -/
theorem slice_len {H : Type} {enc : TypeId × Value → H} {P : Program} {W : World} {base : Nat} {held : Bool} {T E : TypeId} {spare : Nat → Bool} (hT : P.underlying T = some (.slice E)) {a : Option Addr} {n c : Nat} {d : DataW H} {p : List MemPlace} (h : DataW.Trod enc P W base spare held T (.slice a n c) d p) :
    n = 0 ∨ ∃ elems sp, d = .slice elems sp ∧ elems.length = n := by
  obtain ⟨fuel, hf⟩ := h
  rcases Go.Deep.open_slice hT hf with ⟨hcs, _⟩ | ⟨x, n', c', m, q, D, Pl, hcs, _, hl, hm, hmm, hx, hi⟩
  · simp [Value.cells] at hcs
    exact .inl hcs.2.1
  · simp [Value.cells] at hcs
    obtain ⟨rfl, rfl, rfl⟩ := hcs
    injection hx with hx _
    exact .inr ⟨_, _, hx, by simp⟩
theorem v8 {z : Int} (h : (Lit.int .u8 z).wf = true) : Value.int .u8 z = b8 (UInt8.ofNat z.toNat) := by
  have hb := bounds_u8 h
  have : (UInt8.ofNat z.toNat).toNat = z.toNat := by simp; omega
  simp only [b8, this]; rw [Int.toNat_of_nonneg hb.1]
theorem v16 {z : Int} (h : (Lit.int .u16 z).wf = true) : Value.int .u16 z = .int .u16 ((UInt16.ofNat z.toNat).toNat : Int) := by
  have hb := bounds_u16 h
  have : (UInt16.ofNat z.toNat).toNat = z.toNat := by simp; omega
  rw [this, Int.toNat_of_nonneg hb.1]
set_option maxRecDepth 100000 in
/-- A frame that is read. -/
theorem open_mbap {H : Type} {enc : TypeId × Value → H} {W : World} {base b0 : Nat} {r : Reach} {held : Bool} {v : Value} {d : DataW H} {p : List MemPlace}
    (hv : Value.okWide Try.prog W r b0 25 v) (h : DataW.Trod enc Try.prog W base (fun _ => true) held 25 v d p) :
    ∃ (q : Fr) (a : Option Addr) (c : Nat), v = frV q a c ∧ Sl b8 W W.heap.size a q.pdu.length c q.pdu := by
  obtain ⟨cs, rfl, hsz⟩ := okWide_struct Try.underlying25 hv
  obtain ⟨fuel, hf⟩ := h
  obtain ⟨xs, n, _, _, _, hlen, hg⟩ := DataW.trod_struct Try.underlying25 hf
  have hc : Try.prog.cellsOf 25 = 3 := by kernel_rfl
  have k0 : Try.prog.cellsOf 5 = 1 := by kernel_rfl
  have k1 : Try.prog.cellsOf 22 = 1 := by kernel_rfl
  have k2 : Try.prog.cellsOf 23 = 1 := by kernel_rfl
  obtain ⟨l⟩ := cs
  match l, hsz.trans hc with
  | [c0, c1, c2], _ =>
    match xs, hlen with
    | [y0, y1, y2], _ =>
      have h0 : DataW.trod enc Try.prog W base (fun _ => true) held n 22 [c0] = some y0 := by simpa [Value.cells, k1] using hg 0 _ rfl
      have h1 : DataW.trod enc Try.prog W base (fun _ => true) held n 5 [c1] = some y1 := by simpa [Value.cells, k0] using hg 1 _ rfl
      have h2 : DataW.trod enc Try.prog W base (fun _ => true) held n 23 [c2] = some y2 := by simpa [Value.cells, k2] using hg 2 _ rfl
      obtain ⟨z0, e0, _, w0⟩ := DataW.trod_int Try.underlying22 h0
      obtain ⟨z1, e1, _, w1⟩ := DataW.trod_int Try.underlying5 h1
      obtain ⟨a2, n2, m2, l2, rfl, s2⟩ := open_bytes Try.underlying23 Try.underlying5 k0 h2
      injection e0 with e0 _
      injection e1 with e1 _
      subst e0 e1
      obtain rfl := s2.len
      refine ⟨⟨UInt16.ofNat z0.toNat, UInt8.ofNat z1.toNat, l2⟩, a2, m2, ?_, s2⟩
      rw [v16 w0, v8 w1]
set_option maxRecDepth 100000 in
/-- A row of frames that is read. -/
theorem open_frs {H : Type} {enc : TypeId × Value → H} {W : World} {base : Nat} {held : Bool} {a : Option Addr} {n c : Nat} {d : DataW H} {p : List MemPlace}
    (h : DataW.Trod enc Try.prog W base (fun _ => true) held 35 (.slice a n c) d p) : ∃ es : List Fm, FrsAt W W.heap.size a n c es := by
  obtain ⟨fuel, hf⟩ := h
  have hC : Try.prog.cellsOf 25 = 3 := by kernel_rfl
  have k0 : Try.prog.cellsOf 5 = 1 := by kernel_rfl
  have k1 : Try.prog.cellsOf 22 = 1 := by kernel_rfl
  have k2 : Try.prog.cellsOf 23 = 1 := by kernel_rfl
  rcases Go.Deep.open_slice Try.underlying35 hf with ⟨hcs, _⟩ | ⟨x, n', c', m, q, D, Pl, hcs, _, hl, hm, hmm, _, hi⟩
  · simp [Value.cells] at hcs
    obtain ⟨rfl, rfl, rfl⟩ := hcs
    exact ⟨[], FrsAt.none_⟩
  · simp [Value.cells] at hcs
    obtain ⟨rfl, rfl, rfl⟩ := hcs
    have hmn : n ≤ m := by rw [hmm]; simp; exact hl
    have hel : ∀ i, i < n → ∃ e : Fm, W.cell? (x.add (i * 3)) = some (.int .u16 (e.x.tx.toNat : Int)) ∧ W.cell? (x.add (i * 3 + 1)) = some (b8 e.x.unit) ∧ W.cell? (x.add (i * 3 + 2)) = some (.slice e.ap e.x.pdu.length e.cp) ∧ Sl b8 W W.heap.size e.ap e.x.pdu.length e.cp e.x.pdu := fun i hin => by
      obtain ⟨cs, hcell, ht⟩ := hi i (by omega)
      rw [hC] at hcell
      obtain ⟨_, hlen, hat⟩ := World.cells?_some hcell
      obtain ⟨xs, q2, _, _, _, hxl, hg⟩ := DataW.trod_struct Try.underlying25 ht
      match cs, hlen with
      | [v0, v1, v2], _ =>
      match xs, hxl with
      | [y0, y1, y2], _ =>
      have hadd2 : ∀ j, (x.add (i * 3)).add j = x.add (i * 3 + j) := fun j => by
        unfold Addr.add
        by_cases h1 : i * 3 = 0 <;> by_cases h2 : j = 0 <;> simp [h1, h2, Nat.add_assoc]
      have g0 := hat 0 (by simp)
      have g1 := hat 1 (by simp)
      have g2 := hat 2 (by simp)
      rw [hadd2] at g0 g1 g2
      simp only [Nat.add_zero, List.getElem?_cons_zero, List.getElem?_cons_succ] at g0 g1 g2
      have t0 : DataW.trod enc Try.prog W base (fun _ => true) held q2 22 [v0] = some y0 := by simpa [Value.cells, k1] using hg 0 _ rfl
      have t1 : DataW.trod enc Try.prog W base (fun _ => true) held q2 5 [v1] = some y1 := by simpa [Value.cells, k0] using hg 1 _ rfl
      have t2 : DataW.trod enc Try.prog W base (fun _ => true) held q2 23 [v2] = some y2 := by simpa [Value.cells, k2] using hg 2 _ rfl
      obtain ⟨z0, e0, _, w0⟩ := DataW.trod_int Try.underlying22 t0
      obtain ⟨z1, e1, _, w1⟩ := DataW.trod_int Try.underlying5 t1
      obtain ⟨a2, n2, m2, l2, rfl, s2⟩ := open_bytes Try.underlying23 Try.underlying5 k0 t2
      injection e0 with e0 _
      injection e1 with e1 _
      subst e0 e1
      obtain rfl := s2.len
      rw [v16 w0] at g0
      rw [v8 w1] at g1
      exact ⟨⟨⟨UInt16.ofNat z0.toNat, UInt8.ofNat z1.toNat, l2⟩, a2, m2⟩, g0, g1, g2, s2⟩
    classical
    let E : Nat → Fm := fun i => if h : i < n then (hel i h).choose else ⟨⟨0, 0, []⟩, none, 0⟩
    have hE : ∀ i, i < n → W.cell? (x.add (i * 3)) = some (.int .u16 ((E i).x.tx.toNat : Int)) ∧ W.cell? (x.add (i * 3 + 1)) = some (b8 (E i).x.unit) ∧ W.cell? (x.add (i * 3 + 2)) = some (.slice (E i).ap (E i).x.pdu.length (E i).cp) ∧ Sl b8 W W.heap.size (E i).ap (E i).x.pdu.length (E i).cp (E i).x.pdu := fun i hin => by
      have h := (hel i hin).choose_spec
      simp only [E, dif_pos hin]
      exact h
    refine ⟨(List.range n).map E, by simp, hl, hm, fun hn => ?_, fun e he => ?_⟩
    · have h0 := (hE 0 hn).1
      obtain ⟨b, off, spot⟩ := x
      have hspot : spot = none := by simpa [Addr.add] using World.cell?_spot h0
      subst hspot
      have hadd : ∀ i, (⟨b, off, none⟩ : Addr).add i = ⟨b, off + i, none⟩ := fun i => by by_cases h0 : i = 0 <;> simp [Addr.add, h0]
      refine ⟨b, off, rfl, ?_, fun i e he => ?_⟩
      · have := block_lt_of_cell h0
        simpa [hadd] using this
      · rw [List.getElem?_map] at he
        obtain ⟨k, hk, rfl⟩ := Option.map_eq_some_iff.1 he
        obtain ⟨hki, hk2⟩ := List.getElem?_eq_some_iff.1 hk
        simp at hki hk2
        subst hk2
        obtain ⟨g0, g1, g2, _⟩ := hE i hki
        rw [hadd] at g0 g1 g2
        rw [← Nat.add_assoc] at g1 g2
        exact ⟨g0, g1, g2⟩
    · obtain ⟨k, hk, rfl⟩ := List.mem_map.1 he
      exact (hE k (by simpa using hk)).2.2.2
end Go.Proofs.Yteekdginloljjaa.Mem
