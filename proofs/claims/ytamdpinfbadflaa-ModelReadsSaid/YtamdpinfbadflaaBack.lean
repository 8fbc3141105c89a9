/- A box of one struct; a row of bytes that is written over. -/
import Derived.Test.YtamdpinfbadflaaMem
import Derived.Test.YtamdpinfbadflaaGrow
import Derived.Laws.BitsAllLaws
open Go.RowKit
namespace Go.Proofs.Ytamdpinfbadflaa.Mem

/-- A struct in a new block, at the begin of what a call makes; nothing that was there has changed. -/
structure Box1 (w : World) (c1 : Array Value) (T1 : TypeId) (w1 : World) : Prop where
  below : Below w.heap.size w w1
  row : w1.heap[w.heap.size]? = some (.cells c1 T1 (0, 0))
section
variable {w w1 w2 : World} {c1 : Array Value} {T1 : TypeId}
theorem Box1.new (w : World) (c1 : Array Value) (T1 : TypeId) : Box1 w c1 T1 (w.alloc (.cells c1 T1)) := ⟨(Below.refl _ _).alloc (Nat.le_refl _) _, heap_alloc_new w _⟩
theorem Box1.lt (h : Box1 w c1 T1 w1) : w.heap.size < w1.heap.size := by
  have := (Array.getElem?_eq_some_iff.1 h.row).1
  exact this
theorem Box1.on' {B : Nat} (h : Box1 w c1 T1 w1) (hb : Below B w1 w2) (hB : w.heap.size < B) : Box1 w c1 T1 w2 := ⟨h.below.trans (hb.mono (by omega)), (hb.block _ hB).trans h.row⟩
theorem Box1.on (h : Box1 w c1 T1 w1) (hb : Below w1.heap.size w1 w2) : Box1 w c1 T1 w2 := h.on' hb h.lt
theorem Box1.c (h : Box1 w c1 T1 w1) : ∀ i, w1.cell? ⟨w.heap.size, i, none⟩ = c1[i]? := fun _ => cell_of_row _ _ _ _ _ _ h.row
end

/-- The row at g holds some n bytes; all else is as in W. -/
structure Over (W wr : World) (g n : Nat) : Prop where
  grown : W.grownBy wr (some g)
  row : ∃ cs T, wr.heap[g]? = some (.cells cs T (0, 0)) ∧ ∀ i, i < n → ∃ x : UInt8, cs[i]? = some (b8 x)
theorem own_at {W : World} {base : Nat} {e : TypeId} {v : Value} {n : Nat} {l : List UInt8} (h : W.ownsRow base e 1 v n (l.map b8)) (hn : 0 < n) :
    ∃ g cap, v = .slice (some ⟨g, 0, none⟩) n cap ∧ base ≤ g ∧ g < W.heap.size ∧ Over W W g n ∧ Sl b8 W W.heap.size (some ⟨g, 0, none⟩) n cap l := by
  obtain ⟨a, c, hv, hS⟩ := Sl.of_own h
  subst hv
  rcases h.2 with ⟨h0, _⟩ | ⟨g, cap, cur, hv, hb, hh, hn', hm, hs, ht⟩
  · injection h0 with _ h0 _; omega
  · injection hv with e1 e2 e3
    subst e1 e3
    refine ⟨g, c, rfl, hb, (Array.getElem?_eq_some_iff.1 hh).1, ⟨World.grownBy.refl _ _, cur, e, hh, fun i hi => ?_⟩, hS⟩
    have hl := hS.len
    have hx : l[i]? = some (l[i]'(by omega)) := List.getElem?_eq_getElem (by omega)
    refine ⟨l[i]'(by omega), ?_⟩
    have h1 : (cur.toList.take n)[i]? = (l.map b8)[i]? := by
      rw [← ht]; simp
    rw [List.getElem?_take_of_lt hi, List.getElem?_map, hx] at h1
    simpa using h1
section
variable {W wr : World} {g n i B : Nat}
theorem Over.cell (h : Over W wr g n) (hi : i < n) : ∃ x : UInt8, wr.cell? ⟨g, i, none⟩ = some (b8 x) := by
  obtain ⟨cs, T, hr, hc⟩ := h.row
  obtain ⟨x, hx⟩ := hc i hi
  exact ⟨x, (cell_of_row _ _ _ _ _ _ hr).trans hx⟩
theorem Over.free (h : Over W wr g n) : wr.frozen? ⟨g, i, none⟩ = false := by
  obtain ⟨cs, T, hr, _⟩ := h.row
  exact frozen_of_row _ _ i _ _ hr
theorem Over.set (h : Over W wr g n) (x : UInt8) : Over W (wr.setCell ⟨g, i, none⟩ (b8 x)) g n := by
  obtain ⟨cs, T, hr, hc⟩ := h.row
  have a := h.grown
  refine ⟨⟨a.os, a.tape, a.output, by rw [World.size_setCell]; exact a.size, fun k hk hne => ?_⟩, _, T, heap_setCell_same _ _ i _ _ (b8 x) hr, fun j hj => ?_⟩
  · rw [heap_setCell_other _ _ _ _ (fun e => hne (by rw [e]))]
    exact a.block k hk hne
  · obtain ⟨y, hy⟩ := hc j hj
    by_cases hji : i = j
    · subst hji
      exact ⟨x, by rw [Array.getElem?_setIfInBounds_self_of_lt (Array.getElem?_eq_some_iff.1 hy).1]⟩
    · exact ⟨y, by rw [Array.getElem?_setIfInBounds_ne hji]; exact hy⟩
theorem Over.sl {α : Type} {f : α → Value} {m c : Nat} {a : Option Addr} {l : List α} (h : Over W wr g n) (hS : Sl f W B a m c l) (hne : B ≤ g ∨ ∀ x : Addr, a = some x → g < x.block) : Sl f wr B a m c l := by
  obtain ⟨h1, h2, h3, h5, h4⟩ := hS
  refine ⟨h1, h2, h3, h5, fun hn => ?_⟩
  obtain ⟨b, off, e, hb, hc⟩ := h4 hn
  refine ⟨b, off, e, hb, fun i x hx => h.grown.cell (hc i x hx) (fun e2 => ?_)⟩
  injection e2 with e2
  simp only at e2
  rcases hne with hne | hne
  · omega
  · have := hne _ e
    simp only at this
    omega
theorem Over.below {w : World} (h : Over W wr g n) (hb : Below B w W) (hB : B ≤ W.heap.size) (hg : B ≤ g) : Below B w wr := hb.grown h.grown hB (fun k e => by injection e with e; omega)
theorem Over.size (h : Over W wr g n) : W.heap.size ≤ wr.heap.size := h.grown.size
theorem Over.block (h : Over W wr g n) {k : Nat} (hk : k < W.heap.size) (hne : k ≠ g) : wr.heap[k]? = W.heap[k]? := h.grown.block k hk (fun e => hne (by injection e))
/-- A later world in which the row lies as it did. -/
theorem Over.start {W2 : World} (h : Over W W g n) (hb : Below W.heap.size W W2) : Over W2 W2 g n := by
  obtain ⟨cs, T, hr, hc⟩ := h.row
  exact ⟨World.grownBy.refl _ _, cs, T, (hb.block g (Array.getElem?_eq_some_iff.1 hr).1).trans hr, hc⟩
end
theorem flip_val (x : UInt8) : bits .xor .u8 (x.toNat : Int) 255 = ((x ^^^ 255).toNat : Int) := by
  have h := u8_xor_nat x.toNat 255 x.toNat_lt (by omega)
  rw [UInt8.toNat_xor]
  exact h
end Go.Proofs.Ytamdpinfbadflaa.Mem
