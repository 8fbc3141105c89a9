/- Rows of bits and of registers, and numbers of 32 bits, as a law's arguments. -/
import Derived.Test.YtbiecnopgaghbaaLawKit
import Derived.Deep.Grids
open Go.RowKit Go.ChangeShapes Go.WideShapes Go.ChangeAt
namespace Go.Proofs.Ytbiecnopgaghbaa.Mem

/-- Cells at an address, one for each element of a list. -/
theorem sl_at {α : Type} {f : α → Value} {w : World} {x : Addr} {n c : Nat} (l : List α) (hl : l.length = n) (hnc : n ≤ c) (hc : c ≤ maxLen) (h : ∀ i y, l[i]? = some y → w.cell? (x.add i) = some (f y)) : Sl f w w.heap.size (some x) n c l := by
  refine ⟨hl, hnc, hc, (fun h => by cases h), fun hn => ?_⟩
  obtain ⟨y, hy⟩ : ∃ y, l[0]? = some y := ⟨_, List.getElem?_eq_getElem (by omega)⟩
  have h0 := h 0 y hy
  obtain ⟨b, off, spot⟩ := x
  have hspot : spot = none := by simpa [Addr.add] using World.cell?_spot h0
  subst hspot
  have hadd : ∀ i, (⟨b, off, none⟩ : Addr).add i = ⟨b, off + i, none⟩ := fun i => by by_cases h0 : i = 0 <;> simp [Addr.add, h0]
  refine ⟨b, off, rfl, ?_, fun i z hz => ?_⟩
  · have := block_lt_of_cell h0
    simpa [hadd] using this
  · rw [← hadd]; exact h i z hz
section
variable {H : Type} {enc : TypeId × Value → H} {P : Program} {W : World} {base fuel : Nat} {held : Bool} {T E : TypeId} {v : Value} {x : DataW H × List MemPlace}
theorem open_w16 {spare : Nat → Bool} (hT : P.underlying T = some (.slice E)) (hE : P.underlying E = some (.int .u16)) (hC : P.cellsOf E = 1) (h : DataW.trod enc P W base spare held fuel T [v] = some x) :
    ∃ a n c, ∃ l : List UInt16, v = .slice a n c ∧ Sl b16 W W.heap.size a n c l := by
  rcases open_ints hT hE hC h with ⟨hcs, _⟩ | ⟨a, n, c, zs, hcs, _, hl, hm, hz, _, hcell, hwz⟩
  · injection hcs with hcs _
    exact ⟨none, 0, 0, [], hcs, Sl.none_⟩
  · injection hcs with hcs _
    have hzc : n ≤ zs.length := by rw [hz]; split <;> omega
    refine ⟨some a, n, c, (zs.take n).map fun z => UInt16.ofNat z.toNat, hcs, sl_at _ (by simp; omega) hl hm fun i y hy => ?_⟩
    rw [List.getElem?_map] at hy
    obtain ⟨z, hz1, rfl⟩ := Option.map_eq_some_iff.1 hy
    have hi : i < n := by
      rcases Nat.lt_or_ge i n with h | h
      · exact h
      · rw [List.getElem?_eq_none (by simp; omega)] at hz1; cases hz1
    rw [List.getElem?_take, if_pos hi] at hz1
    rw [hcell i (by omega)]
    have hzi : zs.getD i 0 = z := by simp [List.getD, hz1]
    rw [hzi]
    have hb := bounds_u16 (hwz z (List.mem_of_getElem? hz1))
    have h2 : (UInt16.ofNat z.toNat).toNat = z.toNat := by simp; omega
    simp only [b16, h2]
    rw [Int.toNat_of_nonneg hb.1]
theorem open_bits (hT : P.underlying T = some (.slice E)) (hE : P.underlying E = some .bool) (hC : P.cellsOf E = 1) (h : DataW.trod enc P W base (fun _ => true) held fuel T [v] = some x) :
    ∃ a n c l, v = .slice a n c ∧ Sl Value.bool W W.heap.size a n c l := by
  rcases Deep.open_bools hT hE hC h with ⟨hcs, _⟩ | ⟨a, n, c, B, hcs, _, hl, hm, _, hcell⟩
  · injection hcs with hcs _
    exact ⟨none, 0, 0, [], hcs, Sl.none_⟩
  · injection hcs with hcs _
    refine ⟨some a, n, c, (List.range n).map B, hcs, sl_at _ (by simp) hl hm fun i y hy => ?_⟩
    rw [List.getElem?_map] at hy
    obtain ⟨j, hj, rfl⟩ := Option.map_eq_some_iff.1 hy
    obtain ⟨hi, rfl⟩ := List.getElem?_eq_some_iff.1 hj
    simp at hi ⊢
    exact hcell i (by omega)
end
theorem open_bools {H : Type} {enc : TypeId × Value → H} {P : Program} {W : World} {base : Nat} {held : Bool} {T E : TypeId} (hT : P.underlying T = some (.slice E)) (hE : P.underlying E = some .bool) (hC : P.cellsOf E = 1)
    {a : Option Addr} {n c : Nat} {d : DataW H} {p : List MemPlace} (h : DataW.Trod enc P W base (fun _ => true) held T (.slice a n c) d p) : ∃ l, Sl Value.bool W W.heap.size a n c l := by
  obtain ⟨fuel, hf⟩ := h
  obtain ⟨a', n', c', l, hv, hs⟩ := open_bits hT hE hC (by simpa [Value.cells] using hf)
  injection hv with h1 h2 h3
  subst h1 h2 h3
  exact ⟨l, hs⟩
theorem open_words {H : Type} {enc : TypeId × Value → H} {P : Program} {W : World} {base : Nat} {spare : Nat → Bool} {held : Bool} {T E : TypeId} (hT : P.underlying T = some (.slice E)) (hE : P.underlying E = some (.int .u16)) (hC : P.cellsOf E = 1)
    {a : Option Addr} {n c : Nat} {d : DataW H} {p : List MemPlace} (h : DataW.Trod enc P W base spare held T (.slice a n c) d p) : ∃ l, Sl b16 W W.heap.size a n c l := by
  obtain ⟨fuel, hf⟩ := h
  obtain ⟨a', n', c', l, hv, hs⟩ := open_w16 hT hE hC (by simpa [Value.cells] using hf)
  injection hv with h1 h2 h3
  subst h1 h2 h3
  exact ⟨l, hs⟩
theorem nat_u64 {z : Int} (h : (Lit.int .u64 z).wf = true) : ∃ x : Nat, z = (x : Int) ∧ x < 18446744073709551616 := by
  have hb := bounds_u64 h
  exact ⟨z.toNat, by omega, by omega⟩
theorem nat_u32 {z : Int} (h : (Lit.int .u32 z).wf = true) : ∃ x : Nat, z = (x : Int) ∧ x < 4294967296 := by
  have hb := bounds_u32 h
  exact ⟨z.toNat, by omega, by omega⟩
end Go.Proofs.Ytbiecnopgaghbaa.Mem
