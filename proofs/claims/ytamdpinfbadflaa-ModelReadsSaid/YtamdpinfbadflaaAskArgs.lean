/- A request, and rows of bits and of registers, as a law's arguments. -/
import Derived.Test.YtamdpinfbadflaaLawKit
import Derived.Test.YtamdpinfbadflaaAskFit
import Derived.Deep.Grids
open Go.RowKit Go.ChangeShapes Go.WideShapes Go.ChangeAt
namespace Go.Proofs.Ytamdpinfbadflaa.Mem
open AskM AskW

/-- Cells at an address, one for each element of a list. -/
theorem sl_at {α : Type} {f : α → Value} {w : World} {x : Addr} {n c : Nat} (l : List α) (hl : l.length = n) (hnc : n ≤ c) (hc : c ≤ maxLen) (h : ∀ i y, l[i]? = some y → w.cell? (x.add i) = some (f y)) : Sl f w w.heap.size (some x) n c l := by
  refine ⟨hl, hnc, hc, (fun h => by cases h), fun hn => ?_⟩
  obtain ⟨y, hy⟩ : ∃ y, l[0]? = some y := ⟨_, List.getElem?_eq_getElem (by omega)⟩
  have h0 := h 0 y hy
  obtain ⟨b, off, spot⟩ := x
  have hspot : spot = none := by simpa [Addr.add] using World.cell?_spot h0
  subst hspot
  have hadd : ∀ i, (⟨b, off, none⟩ : Addr).add i = ⟨b, off + i, none⟩ := fun i => by by_cases h0 : i = 0 <;> simp [Addr.add, h0]
  refine ⟨b, off, rfl, ?_, fun i z hz => ?_⟩
  · have := block_lt_of_cell h0
    simpa [hadd] using this
  · rw [← hadd]; exact h i z hz
section
variable {H : Type} {enc : TypeId × Value → H} {P : Program} {W : World} {base fuel : Nat} {held : Bool} {T E : TypeId} {v : Value} {x : DataW H × List MemPlace}
theorem open_w16 {spare : Nat → Bool} (hT : P.underlying T = some (.slice E)) (hE : P.underlying E = some (.int .u16)) (hC : P.cellsOf E = 1) (h : DataW.trod enc P W base spare held fuel T [v] = some x) :
    ∃ a n c, ∃ l : List UInt16, v = .slice a n c ∧ Sl b16 W W.heap.size a n c l := by
  rcases open_ints hT hE hC h with ⟨hcs, _⟩ | ⟨a, n, c, zs, hcs, _, hl, hm, hz, _, hcell, hwz⟩
  · injection hcs with hcs _
    exact ⟨none, 0, 0, [], hcs, Sl.none_⟩
  · injection hcs with hcs _
    have hzc : n ≤ zs.length := by rw [hz]; split <;> omega
    refine ⟨some a, n, c, (zs.take n).map fun z => UInt16.ofNat z.toNat, hcs, sl_at _ (by simp; omega) hl hm fun i y hy => ?_⟩
    rw [List.getElem?_map] at hy
    obtain ⟨z, hz1, rfl⟩ := Option.map_eq_some_iff.1 hy
    have hi : i < n := by
      rcases Nat.lt_or_ge i n with h | h
      · exact h
      · rw [List.getElem?_eq_none (by simp; omega)] at hz1; cases hz1
    rw [List.getElem?_take, if_pos hi] at hz1
    rw [hcell i (by omega)]
    have hzi : zs.getD i 0 = z := by simp [List.getD, hz1]
    rw [hzi]
    have hb := bounds_u16 (hwz z (List.mem_of_getElem? hz1))
    have h2 : (UInt16.ofNat z.toNat).toNat = z.toNat := by simp; omega
    simp only [b16, h2]
    rw [Int.toNat_of_nonneg hb.1]
theorem open_bits (hT : P.underlying T = some (.slice E)) (hE : P.underlying E = some .bool) (hC : P.cellsOf E = 1) (h : DataW.trod enc P W base (fun _ => true) held fuel T [v] = some x) :
    ∃ a n c l, v = .slice a n c ∧ Sl Value.bool W W.heap.size a n c l := by
  rcases Deep.open_bools hT hE hC h with ⟨hcs, _⟩ | ⟨a, n, c, B, hcs, _, hl, hm, _, hcell⟩
  · injection hcs with hcs _
    exact ⟨none, 0, 0, [], hcs, Sl.none_⟩
  · injection hcs with hcs _
    refine ⟨some a, n, c, (List.range n).map B, hcs, sl_at _ (by simp) hl hm fun i y hy => ?_⟩
    rw [List.getElem?_map] at hy
    obtain ⟨j, hj, rfl⟩ := Option.map_eq_some_iff.1 hy
    obtain ⟨hi, rfl⟩ := List.getElem?_eq_some_iff.1 hj
    simp at hi ⊢
    exact hcell i (by omega)
end
theorem open_bools {H : Type} {enc : TypeId × Value → H} {P : Program} {W : World} {base : Nat} {held : Bool} {T E : TypeId} (hT : P.underlying T = some (.slice E)) (hE : P.underlying E = some .bool) (hC : P.cellsOf E = 1)
    {a : Option Addr} {n c : Nat} {d : DataW H} {p : List MemPlace} (h : DataW.Trod enc P W base (fun _ => true) held T (.slice a n c) d p) : ∃ l, Sl Value.bool W W.heap.size a n c l := by
  obtain ⟨fuel, hf⟩ := h
  obtain ⟨a', n', c', l, hv, hs⟩ := open_bits hT hE hC (by simpa [Value.cells] using hf)
  injection hv with h1 h2 h3
  subst h1 h2 h3
  exact ⟨l, hs⟩
set_option maxRecDepth 100000 in
/-- A request that is read. -/
theorem open_ask {H : Type} {enc : TypeId × Value → H} {W : World} {base b0 : Nat} {r : Reach} {held : Bool} {v : Value} {d : DataW H} {p : List MemPlace}
    (hv : Value.okWide Try.prog W r b0 31 v) (h : DataW.Trod enc Try.prog W base (fun _ => true) held 31 v d p) :
    ∃ (q : Req) (aw : Option Addr) (cw : Nat) (ab : Option Addr) (cb : Nat), v = askV q aw cw ab cb ∧ AskAt W W.heap.size q aw cw ab cb := by
  obtain ⟨cs, rfl, hsz⟩ := okWide_struct Try.underlying31 hv
  obtain ⟨fuel, hf⟩ := h
  obtain ⟨xs, n, _, _, _, hlen, hg⟩ := DataW.trod_struct Try.underlying31 hf
  have hc : Try.prog.cellsOf 31 = 6 := by kernel_rfl
  have k0 : Try.prog.cellsOf 5 = 1 := by kernel_rfl
  have k1 : Try.prog.cellsOf 29 = 1 := by kernel_rfl
  have k2 : Try.prog.cellsOf 26 = 1 := by kernel_rfl
  have k3 : Try.prog.cellsOf 25 = 1 := by kernel_rfl
  have k4 : Try.prog.cellsOf 4 = 1 := by kernel_rfl
  obtain ⟨l⟩ := cs
  match l, hsz.trans hc with
  | [c0, c1, c2, c3, c4, c5], _ =>
    match xs, hlen with
    | [y0, y1, y2, y3, y4, y5], _ =>
      have h0 : DataW.trod enc Try.prog W base (fun _ => true) held n 5 [c0] = some y0 := by simpa [Value.cells, k0] using hg 0 _ rfl
      have h1 : DataW.trod enc Try.prog W base (fun _ => true) held n 29 [c1] = some y1 := by simpa [Value.cells, k1] using hg 1 _ rfl
      have h2 : DataW.trod enc Try.prog W base (fun _ => true) held n 29 [c2] = some y2 := by simpa [Value.cells, k1] using hg 2 _ rfl
      have h3 : DataW.trod enc Try.prog W base (fun _ => true) held n 29 [c3] = some y3 := by simpa [Value.cells, k1] using hg 3 _ rfl
      have h4 : DataW.trod enc Try.prog W base (fun _ => true) held n 26 [c4] = some y4 := by simpa [Value.cells, k2] using hg 4 _ rfl
      have h5 : DataW.trod enc Try.prog W base (fun _ => true) held n 25 [c5] = some y5 := by simpa [Value.cells, k3] using hg 5 _ rfl
      obtain ⟨z0, e0, _, w0⟩ := DataW.trod_int Try.underlying5 h0
      obtain ⟨z1, e1, _, w1⟩ := DataW.trod_int Try.underlying29 h1
      obtain ⟨z2, e2, _, w2⟩ := DataW.trod_int Try.underlying29 h2
      obtain ⟨z3, e3, _, w3⟩ := DataW.trod_int Try.underlying29 h3
      obtain ⟨a4, n4, m4, l4, rfl, s4⟩ := open_w16 Try.underlying26 Try.underlying29 k1 h4
      obtain ⟨a5, n5, m5, l5, rfl, s5⟩ := open_bits Try.underlying25 Try.underlying4 k4 h5
      injection e0 with e0 _
      injection e1 with e1 _
      injection e2 with e2 _
      injection e3 with e3 _
      subst e0 e1 e2 e3
      have b0 := bounds_u8 w0
      have b1 := bounds_u16 w1
      have b2 := bounds_u16 w2
      have b3 := bounds_u16 w3
      have v8 : ∀ z : Int, 0 ≤ z → z < 256 → Value.int .u8 z = b8 (UInt8.ofNat z.toNat) := fun z h h2 => by
        have : (UInt8.ofNat z.toNat).toNat = z.toNat := by simp; omega
        simp only [b8, this]; rw [Int.toNat_of_nonneg h]
      have v16 : ∀ z : Int, 0 ≤ z → z < 65536 → Value.int .u16 z = b16 (UInt16.ofNat z.toNat) := fun z h h2 => by
        have : (UInt16.ofNat z.toNat).toNat = z.toNat := by simp; omega
        simp only [b16, this]; rw [Int.toNat_of_nonneg h]
      obtain rfl := s4.len
      obtain rfl := s5.len
      refine ⟨⟨UInt8.ofNat z0.toNat, UInt16.ofNat z1.toNat, UInt16.ofNat z2.toNat, UInt16.ofNat z3.toNat, l4, l5⟩, a4, m4, a5, m5, ?_, ⟨s4, s5⟩⟩
      rw [v8 z0 (by omega) (by omega), v16 z1 (by omega) (by omega), v16 z2 (by omega) (by omega), v16 z3 (by omega) (by omega)]
end Go.Proofs.Ytamdpinfbadflaa.Mem
