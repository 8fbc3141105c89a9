/- A reply among the arguments. -/
import Derived.Test.YtamdpinfbadflaaAskArgs
import Derived.Test.YtamdpinfbadflaaReplyA
open Go.RowKit Go.ChangeShapes Go.WideShapes Go.ChangeAt
namespace Go.Proofs.Ytamdpinfbadflaa.Mem
open ReplyM ReplyW

set_option maxRecDepth 100000 in
/-- A reply that is read. -/
theorem open_rep {H : Type} {enc : TypeId × Value → H} {W : World} {base b0 : Nat} {r : Reach} {held : Bool} {v : Value} {d : DataW H} {p : List MemPlace}
    (hv : Value.okWide Try.prog W r b0 36 v) (h : DataW.Trod enc Try.prog W base (fun _ => true) held 36 v d p) :
    ∃ (q : Rep) (aw : Option Addr) (cw : Nat) (ab : Option Addr) (cb : Nat), v = repV q aw cw ab cb ∧ RepAt W W.heap.size q aw cw ab cb := by
  obtain ⟨cs, rfl, hsz⟩ := okWide_struct Try.underlying36 hv
  obtain ⟨fuel, hf⟩ := h
  obtain ⟨xs, n, _, _, _, hlen, hg⟩ := DataW.trod_struct Try.underlying36 hf
  have hc : Try.prog.cellsOf 36 = 6 := by kernel_rfl
  have k0 : Try.prog.cellsOf 5 = 1 := by kernel_rfl
  have k1 : Try.prog.cellsOf 29 = 1 := by kernel_rfl
  have k2 : Try.prog.cellsOf 26 = 1 := by kernel_rfl
  have k3 : Try.prog.cellsOf 25 = 1 := by kernel_rfl
  have k4 : Try.prog.cellsOf 4 = 1 := by kernel_rfl
  obtain ⟨l⟩ := cs
  match l, hsz.trans hc with
  | [c0, c1, c2, c3, c4, c5], _ =>
    match xs, hlen with
    | [y0, y1, y2, y3, y4, y5], _ =>
      have h0 : DataW.trod enc Try.prog W base (fun _ => true) held n 5 [c0] = some y0 := by simpa [Value.cells, k0] using hg 0 _ rfl
      have h1 : DataW.trod enc Try.prog W base (fun _ => true) held n 5 [c1] = some y1 := by simpa [Value.cells, k0] using hg 1 _ rfl
      have h2 : DataW.trod enc Try.prog W base (fun _ => true) held n 25 [c2] = some y2 := by simpa [Value.cells, k3] using hg 2 _ rfl
      have h3 : DataW.trod enc Try.prog W base (fun _ => true) held n 26 [c3] = some y3 := by simpa [Value.cells, k2] using hg 3 _ rfl
      have h4 : DataW.trod enc Try.prog W base (fun _ => true) held n 29 [c4] = some y4 := by simpa [Value.cells, k1] using hg 4 _ rfl
      have h5 : DataW.trod enc Try.prog W base (fun _ => true) held n 29 [c5] = some y5 := by simpa [Value.cells, k1] using hg 5 _ rfl
      obtain ⟨z0, e0, _, w0⟩ := DataW.trod_int Try.underlying5 h0
      obtain ⟨z1, e1, _, w1⟩ := DataW.trod_int Try.underlying5 h1
      obtain ⟨z2, e2, _, w2⟩ := DataW.trod_int Try.underlying29 h4
      obtain ⟨z3, e3, _, w3⟩ := DataW.trod_int Try.underlying29 h5
      obtain ⟨a4, n4, m4, l4, rfl, s4⟩ := open_w16 Try.underlying26 Try.underlying29 k1 h3
      obtain ⟨a5, n5, m5, l5, rfl, s5⟩ := open_bits Try.underlying25 Try.underlying4 k4 h2
      injection e0 with e0 _
      injection e1 with e1 _
      injection e2 with e2 _
      injection e3 with e3 _
      subst e0 e1 e2 e3
      have b0 := bounds_u8 w0
      have b1 := bounds_u8 w1
      have b2 := bounds_u16 w2
      have b3 := bounds_u16 w3
      have v8 : ∀ z : Int, 0 ≤ z → z < 256 → Value.int .u8 z = b8 (UInt8.ofNat z.toNat) := fun z h h2 => by
        have : (UInt8.ofNat z.toNat).toNat = z.toNat := by simp; omega
        simp only [b8, this]; rw [Int.toNat_of_nonneg h]
      have v16 : ∀ z : Int, 0 ≤ z → z < 65536 → Value.int .u16 z = b16 (UInt16.ofNat z.toNat) := fun z h h2 => by
        have : (UInt16.ofNat z.toNat).toNat = z.toNat := by simp; omega
        simp only [b16, this]; rw [Int.toNat_of_nonneg h]
      obtain rfl := s4.len
      obtain rfl := s5.len
      refine ⟨⟨UInt8.ofNat z0.toNat, UInt8.ofNat z1.toNat, l5, l4, UInt16.ofNat z2.toNat, UInt16.ofNat z3.toNat⟩, a4, m4, a5, m5, ?_, ⟨s4, s5⟩⟩
      rw [v8 z0 (by omega) (by omega), v8 z1 (by omega) (by omega), v16 z2 (by omega) (by omega), v16 z3 (by omega) (by omega)]
theorem open_words {H : Type} {enc : TypeId × Value → H} {P : Program} {W : World} {base : Nat} {held : Bool} {T E : TypeId} (hT : P.underlying T = some (.slice E)) (hE : P.underlying E = some (.int .u16)) (hC : P.cellsOf E = 1)
    {a : Option Addr} {n c : Nat} {d : DataW H} {p : List MemPlace} (h : DataW.Trod enc P W base (fun _ => true) held T (.slice a n c) d p) : ∃ l, Sl b16 W W.heap.size a n c l := by
  obtain ⟨fuel, hf⟩ := h
  obtain ⟨a', n', c', l, hv, hs⟩ := open_w16 hT hE hC (by simpa [Value.cells] using hf)
  injection hv with h1 h2 h3
  subst h1 h2 h3
  exact ⟨l, hs⟩
end Go.Proofs.Ytamdpinfbadflaa.Mem
