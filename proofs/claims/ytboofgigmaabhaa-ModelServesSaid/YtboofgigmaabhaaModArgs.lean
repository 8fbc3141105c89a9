/- A space and a memory as a law's arguments. -/
import Derived.Test.YtboofgigmaabhaaReplyArgs
import Derived.Test.YtboofgigmaabhaaModF
open Go.RowKit Go.ChangeShapes Go.WideShapes Go.ChangeAt
namespace Go.Proofs.Ytboofgigmaabhaa.Mem
open AskM AskW ModM ModW

set_option maxRecDepth 100000 in
/-- A row of areas that is read. -/
theorem open_areas {H : Type} {enc : TypeId × Value → H} {W : World} {base fuel : Nat} {held : Bool} {v : Value} {y : DataW H × List MemPlace}
    (hf : DataW.trod enc Try.prog W base (fun _ => true) held fuel 22 [v] = some y) : ∃ a n c, ∃ es : List Ar, v = .slice a n c ∧ ArsAt W W.heap.size a n c es := by
  have hC : Try.prog.cellsOf 49 = 5 := by kernel_rfl
  have k0 : Try.prog.cellsOf 3 = 1 := by kernel_rfl
  have k1 : Try.prog.cellsOf 4 = 1 := by kernel_rfl
  rcases Go.Deep.open_slice Try.underlying22 hf with ⟨hcs, _⟩ | ⟨x, n, c, m, q, D, Pl, hcs, _, hl, hm, hmm, _, hi⟩
  · injection hcs with hcs _
    exact ⟨none, 0, 0, [], hcs, ArsAt.none_⟩
  · injection hcs with hcs _
    refine ⟨some x, n, c, ?_⟩
    have hmn : n ≤ m := by rw [hmm]; simp; exact hl
    have hel : ∀ i, i < n → ∃ e : Ar, ArOk e ∧ ∀ j v, (arCells e)[j]? = some v → W.cell? (x.add (i * 5 + j)) = some v := fun i hin => by
      obtain ⟨cs, hcell, ht⟩ := hi i (by omega)
      rw [hC] at hcell
      obtain ⟨_, hlen, hat⟩ := World.cells?_some hcell
      obtain ⟨xs, q2, _, _, _, hxl, hg⟩ := DataW.trod_struct Try.underlying49 ht
      match cs, hlen with
      | [v0, v1, v2, v3, v4], _ =>
      match xs, hxl with
      | [y0, y1, y2, y3, y4], _ =>
      have hadd2 : ∀ j, (x.add (i * 5)).add j = x.add (i * 5 + j) := fun j => by
        unfold Addr.add
        by_cases h1 : i * 5 = 0 <;> by_cases h2 : j = 0 <;> simp [h1, h2, Nat.add_assoc]
      have t0 : DataW.trod enc Try.prog W base (fun _ => true) held q2 3 [v0] = some y0 := by simpa [Value.cells, k0] using hg 0 _ rfl
      have t1 : DataW.trod enc Try.prog W base (fun _ => true) held q2 3 [v1] = some y1 := by simpa [Value.cells, k0] using hg 1 _ rfl
      have t2 : DataW.trod enc Try.prog W base (fun _ => true) held q2 4 [v2] = some y2 := by simpa [Value.cells, k1] using hg 2 _ rfl
      have t3 : DataW.trod enc Try.prog W base (fun _ => true) held q2 4 [v3] = some y3 := by simpa [Value.cells, k1] using hg 3 _ rfl
      have t4 : DataW.trod enc Try.prog W base (fun _ => true) held q2 4 [v4] = some y4 := by simpa [Value.cells, k1] using hg 4 _ rfl
      obtain ⟨z0, e0, _, w0⟩ := DataW.trod_int Try.underlying3 t0
      obtain ⟨z1, e1, _, w1⟩ := DataW.trod_int Try.underlying3 t1
      obtain ⟨z2, e2, _⟩ := DataW.trod_bool Try.underlying4 t2
      obtain ⟨z3, e3, _⟩ := DataW.trod_bool Try.underlying4 t3
      obtain ⟨z4, e4, _⟩ := DataW.trod_bool Try.underlying4 t4
      injection e0 with e0 _
      injection e1 with e1 _
      injection e2 with e2 _
      injection e3 with e3 _
      injection e4 with e4 _
      subst e0 e1 e2 e3 e4
      have b0 := bounds_i64 w0
      have b1 := bounds_i64 w1
      refine ⟨⟨z0, z1, z2, z3, z4⟩, ⟨b0.1, b0.2, b1.1, b1.2⟩, fun j v hj => ?_⟩
      have hjl : j < 5 := by have := (List.getElem?_eq_some_iff.1 hj).1; rwa [arCells_len] at this
      have h := hat j (by simpa using hjl)
      rw [hadd2] at h
      rw [h]
      match j, hj with
      | 0, hj => exact hj
      | 1, hj => exact hj
      | 2, hj => exact hj
      | 3, hj => exact hj
      | 4, hj => exact hj
    classical
    let E : Nat → Ar := fun i => if h : i < n then (hel i h).choose else zeroA
    have hE : ∀ i, i < n → ArOk (E i) ∧ ∀ j v, (arCells (E i))[j]? = some v → W.cell? (x.add (i * 5 + j)) = some v := fun i hin => by
      have h := (hel i hin).choose_spec
      simp only [E, dif_pos hin]
      exact h
    refine ⟨(List.range n).map E, hcs, by simp, hl, hm, fun e he => ?_, fun hn => ?_⟩
    · obtain ⟨k, hk, rfl⟩ := List.mem_map.1 he
      exact (hE k (by simpa using hk)).1
    · have h0 := (hE 0 hn).2 0 _ rfl
      obtain ⟨b, off, spot⟩ := x
      have hspot : spot = none := by simpa [Addr.add] using World.cell?_spot h0
      subst hspot
      have hadd : ∀ i, (⟨b, off, none⟩ : Addr).add i = ⟨b, off + i, none⟩ := fun i => by by_cases h0 : i = 0 <;> simp [Addr.add, h0]
      refine ⟨b, off, rfl, ?_, fun i e he j v hv => ?_⟩
      · have := block_lt_of_cell h0
        simpa [hadd] using this
      · rw [List.getElem?_map] at he
        obtain ⟨k, hk, rfl⟩ := Option.map_eq_some_iff.1 he
        obtain ⟨hki, hk2⟩ := List.getElem?_eq_some_iff.1 hk
        simp at hki hk2
        subst hk2
        have h := (hE i hki).2 j v hv
        rw [hadd] at h
        rwa [← Nat.add_assoc] at h
set_option maxRecDepth 100000 in
theorem open_space {H : Type} {enc : TypeId × Value → H} {W : World} {base b0 : Nat} {r : Reach} {held : Bool} {v : Value} {d : DataW H} {p : List MemPlace}
    (hv : Value.okWide Try.prog W r b0 24 v) (h : DataW.Trod enc Try.prog W base (fun _ => true) held 24 v d p) :
    ∃ (s : Sp) (q : Pl), v = spV s q ∧ SpAt W W.heap.size s q := by
  obtain ⟨cs, rfl, hsz⟩ := okWide_struct Try.underlying24 hv
  obtain ⟨fuel, hf⟩ := h
  obtain ⟨xs, n, _, _, _, hlen, hg⟩ := DataW.trod_struct Try.underlying24 hf
  have hc : Try.prog.cellsOf 24 = 4 := by kernel_rfl
  have k0 : Try.prog.cellsOf 22 = 1 := by kernel_rfl
  obtain ⟨l⟩ := cs
  match l, hsz.trans hc with
  | [c0, c1, c2, c3], _ =>
    match xs, hlen with
    | [y0, y1, y2, y3], _ =>
      have h0 : DataW.trod enc Try.prog W base (fun _ => true) held n 22 [c0] = some y0 := by simpa [Value.cells, k0] using hg 0 _ rfl
      have h1 : DataW.trod enc Try.prog W base (fun _ => true) held n 22 [c1] = some y1 := by simpa [Value.cells, k0] using hg 1 _ rfl
      have h2 : DataW.trod enc Try.prog W base (fun _ => true) held n 22 [c2] = some y2 := by simpa [Value.cells, k0] using hg 2 _ rfl
      have h3 : DataW.trod enc Try.prog W base (fun _ => true) held n 22 [c3] = some y3 := by simpa [Value.cells, k0] using hg 3 _ rfl
      obtain ⟨a0, n0, m0, l0, rfl, s0⟩ := open_areas h0
      obtain ⟨a1, n1, m1, l1, rfl, s1⟩ := open_areas h1
      obtain ⟨a2, n2, m2, l2, rfl, s2⟩ := open_areas h2
      obtain ⟨a3, n3, m3, l3, rfl, s3⟩ := open_areas h3
      obtain rfl := s0.len
      obtain rfl := s1.len
      obtain rfl := s2.len
      obtain rfl := s3.len
      exact ⟨⟨l0, l1, l2, l3⟩, ⟨a0, m0, a1, m1, a2, m2, a3, m3⟩, rfl, s0, s1, s2, s3⟩
set_option maxRecDepth 100000 in
theorem open_mem {H : Type} {enc : TypeId × Value → H} {W : World} {base b0 : Nat} {r : Reach} {held : Bool} {v : Value} {d : DataW H} {p : List MemPlace}
    (hv : Value.okWide Try.prog W r b0 28 v) (h : DataW.Trod enc Try.prog W base (fun _ => true) held 28 v d p) :
    ∃ (m : Me) (q : Pl), v = meV m q ∧ MeAt W W.heap.size m q := by
  obtain ⟨cs, rfl, hsz⟩ := okWide_struct Try.underlying28 hv
  obtain ⟨fuel, hf⟩ := h
  obtain ⟨xs, n, _, _, _, hlen, hg⟩ := DataW.trod_struct Try.underlying28 hf
  have hc : Try.prog.cellsOf 28 = 4 := by kernel_rfl
  have k0 : Try.prog.cellsOf 25 = 1 := by kernel_rfl
  have k1 : Try.prog.cellsOf 26 = 1 := by kernel_rfl
  have k2 : Try.prog.cellsOf 4 = 1 := by kernel_rfl
  have k3 : Try.prog.cellsOf 29 = 1 := by kernel_rfl
  obtain ⟨l⟩ := cs
  match l, hsz.trans hc with
  | [c0, c1, c2, c3], _ =>
    match xs, hlen with
    | [y0, y1, y2, y3], _ =>
      have h0 : DataW.trod enc Try.prog W base (fun _ => true) held n 25 [c0] = some y0 := by simpa [Value.cells, k0] using hg 0 _ rfl
      have h1 : DataW.trod enc Try.prog W base (fun _ => true) held n 25 [c1] = some y1 := by simpa [Value.cells, k0] using hg 1 _ rfl
      have h2 : DataW.trod enc Try.prog W base (fun _ => true) held n 26 [c2] = some y2 := by simpa [Value.cells, k1] using hg 2 _ rfl
      have h3 : DataW.trod enc Try.prog W base (fun _ => true) held n 26 [c3] = some y3 := by simpa [Value.cells, k1] using hg 3 _ rfl
      obtain ⟨a0, n0, m0, l0, rfl, s0⟩ := open_bits Try.underlying25 Try.underlying4 k2 h0
      obtain ⟨a1, n1, m1, l1, rfl, s1⟩ := open_bits Try.underlying25 Try.underlying4 k2 h1
      obtain ⟨a2, n2, m2, l2, rfl, s2⟩ := open_w16 Try.underlying26 Try.underlying29 k3 h2
      obtain ⟨a3, n3, m3, l3, rfl, s3⟩ := open_w16 Try.underlying26 Try.underlying29 k3 h3
      obtain rfl := s0.len
      obtain rfl := s1.len
      obtain rfl := s2.len
      obtain rfl := s3.len
      exact ⟨⟨l0, l1, l2, l3⟩, ⟨a0, m0, a1, m1, a2, m2, a3, m3⟩, rfl, s0, s1, s2, s3⟩
end Go.Proofs.Ytboofgigmaabhaa.Mem
