/- The frames that bytes begin with, handed over one by one. -/
import Derived.Test.YteekdginloljjaaMbPack
import Derived.Test.YteekdginloljjaaTold
import Derived.Shelf.Abstract
import Derived.Shelf.RegionOpen
import Derived.WalkKit
import Derived.OwnWalkIn
import Derived.TacticsInMore
import Derived.LoopNIn
import Derived.LoopIn
open Go.RowKit Go.Shelf
namespace Go.Proofs.Yteekdginloljjaa.MbW
open MbM Mem ToldW
attribute [local go_sem] Oper.semAt_some

/-- What is handed over: a frame, where its bytes lie, and what lies behind it. -/
structure It where
  x : Fr
  ap : Option Addr
  cp : Nat
  r : List UInt8
  ar : Option Addr
  cr : Nat
abbrev itV (it : It) : Array Value := #[frV it.x it.ap it.cp, .slice it.ar it.r.length it.cr]
/-- Block k holds the bytes of it. -/
def Owns (it : It) (k : Nat) : Prop := ∃ y : Addr, it.ap = some y ∧ y.block = k
/-- The bytes of a frame that was handed over, in memory of their own. -/
def PduOk (b n1 : Nat) (it : It) (W : World) : Prop :=
  0 < it.x.pdu.length ∧ Sl b8 W W.heap.size it.ap it.x.pdu.length it.cp it.x.pdu ∧ ∀ y : Addr, it.ap = some y → rowOf b W ≠ some y.block ∧ n1 ≤ y.block
/-- What is known of what is handed over. -/
def GoodIt (n0 b n1 : Nat) (it : It) (W : World) : Prop := PduOk b n1 it W ∧ Sl b8 W n0 it.ar it.r.length it.cr it.r
def restOf (b0 : List UInt8) (xs : List It) : List UInt8 := match xs.getLast? with
  | none => b0
  | some it => it.r
theorem restOf_snoc (b0 : List UInt8) (pre : List It) (it : It) : restOf b0 (pre ++ [it]) = it.r := by simp [restOf]
/-- So far these frames were told. -/
def Steps (b0 : List UInt8) (pre : List It) : Prop := b0 = flat (pre.map It.x) ++ restOf b0 pre ∧ ∀ x ∈ pre.map It.x, Right x
theorem Steps.nil (b0 : List UInt8) : Steps b0 [] := ⟨rfl, by simp⟩
theorem Steps.snoc {b0 : List UInt8} {pre : List It} (h : Steps b0 pre) {it : It} (hf : first (restOf b0 pre) = some (it.x, it.r)) : Steps b0 (pre ++ [it]) := by
  obtain ⟨h1, h2⟩ := first_some hf
  refine ⟨?_, ?_⟩
  · rw [restOf_snoc, List.map_append, flat_append, List.append_assoc]
    show b0 = flat (pre.map It.x) ++ (flat [it.x] ++ it.r)
    rw [show flat [it.x] = packN it.x by simp [flat], ← h2]
    exact h.1
  · intro x hx
    rw [List.map_append] at hx
    rcases List.mem_append.1 hx with hx | hx
    · exact h.2 x hx
    · simp at hx; subst hx; exact h1
theorem Steps.done {b0 : List UInt8} {pre : List It} (h : Steps b0 pre) (hf : first (restOf b0 pre) = none) : Cuts b0 (pre.map It.x) (restOf b0 pre) := cuts_iff.2 ⟨h.1, h.2, hf⟩
theorem flat_length {l : List Fr} : 8 * l.length ≤ (flat l).length + l.length := by
  induction l with
  | nil => simp [flat]
  | cons x l ih => rw [flat_cons, List.length_append, packN_length, List.length_cons]; omega
theorem Steps.len {b0 : List UInt8} {pre : List It} (h : Steps b0 pre) : pre.length ≤ b0.length := by
  have h1 := congrArg List.length h.1
  have h2 := flat_length (l := pre.map It.x)
  rw [List.length_append] at h1
  rw [List.length_map] at h2
  omega

/-- What the bytes that lie there begin with, if anything. -/
def FirstIs (B : Nat) (b : List UInt8) (w : World) (e : Ending) (w' : World) : Prop := (first b = none ∧ NoFirst w e w') ∨ ∃ x r, first b = some (x, r) ∧ YesFirst B x r w e w'
theorem first_any (B : Nat) (a : Option Addr) (n c : Nat) (b : List UInt8) (w : World) (hBw : B ≤ w.heap.size) (hl : Sl b8 w B a n c b) :
    Calls Try.prog 19 #[.slice a n c] w (FirstIs B b w) := by
  cases h : first b with
  | none => exact (first_no a n c b w (hl.more hBw) h).mono fun e w' h2 => .inl ⟨h, h2⟩
  | some q =>
    obtain ⟨x, r⟩ := q
    exact (first_yes B a n c b w hBw hl h).mono fun e w' h2 => .inr ⟨x, r, h, h2⟩

def lenOf : Value → Nat
  | .slice _ n _ => n
  | _ => 0
def okOf : Value → Bool
  | .bool b => b
  | _ => false
/-- Between two rounds. -/
def Between (b0 : List UInt8) (n0 b n1 p : Nat) (J : List It → World → Prop) (w : World) (v4 v5 : Value) (wr : World) : Prop :=
  ∃ (pre : List It) (cs : Array Value), J pre wr ∧ Steps b0 pre ∧ Below n0 w wr ∧ cs.size = 3 ∧ wr.heap[p]? = some (.cells cs 25 (0, 0)) ∧ (∀ k, rowOf b wr = some k → k ≠ p ∧ k < wr.heap.size) ∧ (∀ it ∈ pre, ¬ Owns it p) ∧
    ((first (restOf b0 pre) = none ∧ v4 = .slice none 0 0 ∧ v5 = .bool false) ∨
     ∃ it : It, first (restOf b0 pre) = some (it.x, it.r) ∧ v5 = .bool true ∧ v4 = .slice it.ar it.r.length it.cr ∧ cs = frC it.x it.ap it.cp ∧ GoodIt n0 b n1 it wr ∧ ¬ Owns it p)

theorem grown_three {W w' : World} {p : Nat} (h : Below W.heap.size W w') (u v t : Value) : W.grownBy (((w'.setCell ⟨p, 0, none⟩ u).setCell ⟨p, 1, none⟩ v).setCell ⟨p, 2, none⟩ t) (some p) := by
  refine ⟨h.os, h.tape, h.output, by simp [World.size_setCell]; exact h.size, fun k hk hne => ?_⟩
  have hkp : k ≠ p := fun e => hne (by rw [e])
  rw [Below.heap_setCell _ _ _ _ hkp, Below.heap_setCell _ _ _ _ hkp, Below.heap_setCell _ _ _ _ hkp]
  exact h.block k hk
theorem rowOf_three {W w' : World} {p b : Nat} (h : Below W.heap.size W w') (hb : b < W.heap.size) (hp : b ≠ p) (u v t : Value) : rowOf b (((w'.setCell ⟨p, 0, none⟩ u).setCell ⟨p, 1, none⟩ v).setCell ⟨p, 2, none⟩ t) = rowOf b W :=
  rowOf_same (World.cell?_of_block ((grown_three h u v t).block b hb (fun e => hp (by injection e))))
theorem grown_alloc {W w' : World} (h : Below W.heap.size W w') (o : Obj) : W.grownBy (w'.alloc o) none :=
  ⟨h.os, h.tape, h.output, by have := h.size; simp; omega, fun k hk _ => (Below.heap_alloc w' o k (by have := h.size; omega)).trans (h.block k hk)⟩
/-- A round and what is told behind it lead from one point between two rounds to the next. -/
theorem next_no {b0 : List UInt8} {n0 b n1 p B : Nat} {J : List It → World → Prop} {w wr W3 w4 : World} {pre : List It} {it : It} {bx : Nat → Prop} (hJ : Bears B b Owns J) (hBp : B ≤ p) (hn1p : n1 ≤ p) (hn0p : n0 ≤ p) (hbn : b < n1)
    (hst : Steps b0 pre) (hfs : first (restOf b0 pre) = some (it.x, it.r)) (hbw : Below n0 w wr) (hp : wr.heap[p]? = some (.cells (frC it.x it.ap it.cp) 25 (0, 0))) (hbxp : ¬ bx p)
    (hrw : ∀ k, rowOf b wr = some k → k ≠ p ∧ k < wr.heap.size) (hno : ∀ i ∈ pre, ¬ Owns i p) (hnp : ¬ Owns it p) (hJ3 : J (pre ++ [it]) W3) (hk3 : KeepsBut n0 bx b wr W3) (hb4 : Below W3.heap.size W3 w4) :
    W3.heap[p]? = some (.cells (frC it.x it.ap it.cp) 25 (0, 0)) ∧ w4.heap[p]? = some (.cells (frC it.x it.ap it.cp) 25 (0, 0)) ∧ (∀ k, rowOf b W3 = some k → k ≠ p ∧ k < W3.heap.size) ∧
    ∀ u v t : Value, J (pre ++ [it]) (((w4.setCell ⟨p, 0, none⟩ u).setCell ⟨p, 1, none⟩ v).setCell ⟨p, 2, none⟩ t) ∧ Steps b0 (pre ++ [it]) ∧ Below n0 w (((w4.setCell ⟨p, 0, none⟩ u).setCell ⟨p, 1, none⟩ v).setCell ⟨p, 2, none⟩ t) ∧
      (((w4.setCell ⟨p, 0, none⟩ u).setCell ⟨p, 1, none⟩ v).setCell ⟨p, 2, none⟩ t).heap[p]? = some (.cells #[u, v, t] 25 (0, 0)) ∧
      (∀ k, rowOf b (((w4.setCell ⟨p, 0, none⟩ u).setCell ⟨p, 1, none⟩ v).setCell ⟨p, 2, none⟩ t) = some k → k ≠ p ∧ k < (((w4.setCell ⟨p, 0, none⟩ u).setCell ⟨p, 1, none⟩ v).setCell ⟨p, 2, none⟩ t).heap.size) ∧ (∀ i ∈ pre ++ [it], ¬ Owns i p) := by
  have hpl : p < wr.heap.size := (Array.getElem?_eq_some_iff.1 hp).1
  have h3 : W3.heap[p]? = some (.cells (frC it.x it.ap it.cp) 25 (0, 0)) := hk3.cells p _ _ _ hp hbxp (fun h => (hrw p h).1 rfl)
  have hp3 : p < W3.heap.size := (Array.getElem?_eq_some_iff.1 h3).1
  have hrow3 : ∀ k, rowOf b W3 = some k → k ≠ p ∧ k < W3.heap.size := fun k hk => by
    have hs := hk3.size
    rcases hk3.row k hk with h | h
    · have := hrw k h; exact ⟨this.1, by omega⟩
    · exact ⟨by omega, h.2⟩
  have h4 := (hb4.block p hp3).trans h3
  have hb3 : b < W3.heap.size := by omega
  refine ⟨h3, h4, hrow3, fun u v t => ?_⟩
  have hall : ∀ i ∈ pre ++ [it], ¬ Owns i p := fun i hi => by
    rcases List.mem_append.1 hi with h | h
    · exact hno i h
    · simp at h; subst h; exact hnp
  have hsz : (((w4.setCell ⟨p, 0, none⟩ u).setCell ⟨p, 1, none⟩ v).setCell ⟨p, 2, none⟩ t).heap.size = w4.heap.size := by simp [World.size_setCell]
  refine ⟨hJ _ W3 _ (some p) hJ3 (grown_three hb4 u v t) (fun r hr => ?_), hst.snoc hfs, ?_, set3_heap h4 u v t, ?_, hall⟩
  · injection hr with hr
    subst hr
    exact ⟨hBp, ⟨_, _, _, h3⟩, fun h => (hrow3 _ h).1 rfl, hall⟩
  · exact ((((hbw.trans hk3.below).trans (hb4.mono (by omega))).setCell hn0p _).setCell hn0p _).setCell hn0p _
  · rw [rowOf_three hb4 hb3 (by omega) u v t, hsz]
    intro k hk
    have h := hrow3 k hk
    have := hb4.size
    exact ⟨h.1, by omega⟩
theorem next_good {n0 b n1 p : Nat} {W3 w4 : World} {x' : Fr} {r' : List UInt8} {ap' ar' : Option Addr} {cp' cr' : Nat} (hb4 : Below W3.heap.size W3 w4) (hb3 : b < W3.heap.size) (hbp : b ≠ p) (hp3 : p < W3.heap.size) (hn0p : n0 ≤ p) (hn13 : n1 ≤ W3.heap.size)
    (hrow3 : ∀ k, rowOf b W3 = some k → k ≠ p ∧ k < W3.heap.size) (hsp : Sl b8 w4 w4.heap.size ap' x'.pdu.length cp' x'.pdu) (hsr : Sl b8 W3 n0 ar' r'.length cr' r') (hxp : ∀ y : Addr, ap' = some y → W3.heap.size ≤ y.block) (hpos : 0 < x'.pdu.length) (u v t : Value) :
    GoodIt n0 b n1 ⟨x', ap', cp', r', ar', cr'⟩ (((w4.setCell ⟨p, 0, none⟩ u).setCell ⟨p, 1, none⟩ v).setCell ⟨p, 2, none⟩ t) ∧ ¬ Owns ⟨x', ap', cp', r', ar', cr'⟩ p := by
  have hS := set3_end hsp hxp hp3 (Below.refl n0 W3) hb4 hn0p u v t
  refine ⟨⟨⟨hpos, hS.1, fun y hy => ⟨fun h => ?_, by have := hxp y hy; omega⟩⟩, hsr.below hS.2 (Nat.le_refl _)⟩, ?_⟩
  · rw [rowOf_three hb4 hb3 hbp u v t] at h
    have := (hrow3 _ h).2
    have := hxp y hy
    omega
  · rintro ⟨y, hy, h⟩
    have := hxp y hy
    omega

set_option maxRecDepth 100000 in
set_option maxHeartbeats 2000000 in
theorem frames_tells (n : Nat) (bx : Nat → Prop) (b Bb n0 : Nat) (a : Option Addr) (nb c : Nat) (b0 : List UInt8) (w : World) (hBb : Bb < w.heap.size) (hcell : w.cell? ⟨Bb, 0, none⟩ = some (.slice a nb c)) (hn0 : n0 ≤ w.heap.size) (hl : Sl b8 w n0 a nb c b0)
    (hbx : ∀ k, bx k → k < w.heap.size) (hb : b < w.heap.size) (hrow : rowOf b w = none) :
    Tells Fence.wide n Try.prog 26 #[.pointer (some ⟨Bb, 0, none⟩)] itV (GoodIt n0 b w.heap.size) (KeepsBut n0 bx b) b Owns (fun xs => Cuts b0 (xs.map It.x) (restOf b0 xs)) (b0.length + 1) w := by
  intro l J W hW hJ hY h0
  have hc1 : W.cell? ⟨Bb, 0, none⟩ = some (.slice a nb c) := (hW.cell (p := ⟨Bb, 0, none⟩) hBb).trans hcell
  have hl1 : Sl b8 W n0 a nb c b0 := hl.below hW hn0
  have hrow1 : rowOf b W = none := (rowOf_same (hW.cell (p := ⟨b, 0, none⟩) hb)).trans hrow
  have hwW := hW.size
  refine callsIn_of_wp Try.func26 rfl trivial ?_ rfl
  simp only [Try.ntmps26, List.size_toArray, List.length_cons, List.length_nil, Nat.reduceAdd, Nat.reduceSub, Array.replicate_succ, Array.replicate_zero, List.push_toArray, List.append_toArray, List.nil_append, List.cons_append]
  gi_wp2
  refine ⟨trivial, (fun h => by cases h), ?_⟩
  refine (callsIn_wide.2 (first_any n0 a nb c b0 W (by omega) hl1)).mono ?_
  rintro e w1 (⟨hf, rfl, hb1⟩ | ⟨x, r, hf, ap, cp, ar, cr, rfl, hsp, hsr, hb1, hxp⟩)
  · have hz1 := hb1.size
    have hb1b : b < W.heap.size := by omega
    have HS := Lib.hid (show Between b0 n0 b w.heap.size w1.heap.size J w (.slice none 0 0) (.bool false) (w1.alloc (.cells #[.int .u16 0, .int .u8 0, .slice none 0 0] 25)) from
      ⟨[], _, hJ _ W _ none h0 (grown_alloc hb1 _) (fun r h => by cases h), Steps.nil _, ((hW.mono hn0).trans (hb1.mono (by omega))).alloc (by omega) _, rfl, heap_alloc_new w1 _,
        (fun k hk => by rw [rowOf_same (World.cell?_of_block ((grown_alloc hb1 _).block b hb1b (by simp))), hrow1] at hk; cases hk), (fun i h => by cases h), .inl ⟨hf, rfl, rfl⟩⟩)
    clear hf hb1
    gi_wp2
    gi_loopw [4, 5] (Between b0 n0 b w.heap.size w1.heap.size J w) (fun v4 v5 _ => if okOf v5 = true then lenOf v4 + 1 else 0)
    case atStart => exact HS.out
    case round =>
      have hrel := hrel
      unfold Between at hrel
      obtain ⟨pre, cs, hJp, hst, hbw, hcs, hp, hrw, hno, hor⟩ := hrel
      rcases hor with ⟨hfn, rfl, rfl⟩ | ⟨it, hfs, rfl, rfl, rfl, hg, hnp⟩
      · have HD := Lib.hid (And.intro (hst.done hfn) hJp)
        clear hst hfn hJp HS
        gi_wp2
        refine ⟨fun _ h => (by cases h), ?_⟩
        gi_wp2
        go_end0
        exact ⟨⟨_, rfl⟩, pre, HD.out.1, HD.out.2⟩
      · obtain ⟨fn, tmps, assign, body, hy, hR⟩ := hY pre it wr hJp hg (by have := hst.len; omega)
        have hv0 := cell_of_row _ _ 0 _ _ _ hp
        have hv1 := cell_of_row _ _ 1 _ _ _ hp
        have hv2 := cell_of_row _ _ 2 _ _ _ hp
        have HP := Lib.hid hp
        have HG := Lib.hid hg
        have HF := Lib.hid hfs
        have HST := Lib.hid hst
        clear hp hg hfs hst hrel
        gi_wp2
        refine ⟨(fun h => by cases h), ?_⟩
        refine hR.mono ?_
        rintro e W3 ⟨rfl, hJ3, hk3⟩
        have HK := Lib.hid hk3
        have HJ := Lib.hid hJ3
        clear hk3 hJ3 hv0 hv1 hv2 hy hR
        gi_wp2
        refine ⟨trivial, (fun h => by cases h), ?_⟩
        refine (callsIn_wide.2 (first_any n0 _ _ _ it.r W3 (by have := HK.out.size; have := hbw.size; omega) (HG.out.2.below HK.out.below (Nat.le_refl _)))).mono ?_
        rintro e w4 (⟨hf4, rfl, hb4⟩ | ⟨x', r', hf4, ap', cp', ar', cr', rfl, hsp4, hsr4, hb4, hxp4⟩)
        · obtain ⟨h3, h4, hr3, hN⟩ := next_no hJ (show W.heap.size ≤ w1.heap.size by omega) (show w.heap.size ≤ w1.heap.size by omega) (show n0 ≤ w1.heap.size by omega) hb HST.out HF.out hbw HP.out (fun h => by have := hbx _ h; omega) hrw hno hnp HJ.out HK.out hb4
          have HN := Lib.hid (hN (.int .u16 0) (.int .u8 0) (.slice none 0 0))
          have hv0 := cell_of_row _ _ 0 _ _ _ h4
          have hv1 := cell_of_row _ _ 1 _ _ _ h4
          have hv2 := cell_of_row _ _ 2 _ _ _ h4
          have hz := fun i => frozen_of_row _ _ i _ _ h4
          clear h3 h4 hN hb4 hno hrw
          gi_wp2
          go_roundw
          case rel => exact ⟨pre ++ [it], _, HN.out.1, HN.out.2.1, HN.out.2.2.1, rfl, HN.out.2.2.2.1, HN.out.2.2.2.2.1, HN.out.2.2.2.2.2, .inl ⟨by rw [restOf_snoc]; exact hf4, rfl, rfl⟩⟩
          case measure => simp [okOf, lenOf]
        · obtain ⟨h3, h4, hr3, hN⟩ := next_no hJ (show W.heap.size ≤ w1.heap.size by omega) (show w.heap.size ≤ w1.heap.size by omega) (show n0 ≤ w1.heap.size by omega) hb HST.out HF.out hbw HP.out (fun h => by have := hbx _ h; omega) hrw hno hnp HJ.out HK.out hb4
          have HN := Lib.hid (hN (.int .u16 (x'.tx.toNat : Int)) (b8 x'.unit) (.slice ap' x'.pdu.length cp'))
          have hp3 : w1.heap.size < W3.heap.size := (Array.getElem?_eq_some_iff.1 h3).1
          have HGD := Lib.hid (next_good (n0 := n0) (b := b) (n1 := w.heap.size) (p := w1.heap.size) hb4 (by omega) (by omega) hp3 (by omega) (by omega) hr3 hsp4 hsr4 hxp4 (first_some hf4).1.1 (.int .u16 (x'.tx.toNat : Int)) (b8 x'.unit) (.slice ap' x'.pdu.length cp'))
          have hlen4 : r'.length < it.r.length := by rw [(first_some hf4).2, List.length_append, packN_length]; omega
          have HF4 := Lib.hid hf4
          have hv0 := cell_of_row _ _ 0 _ _ _ h4
          have hv1 := cell_of_row _ _ 1 _ _ _ h4
          have hv2 := cell_of_row _ _ 2 _ _ _ h4
          have hz := fun i => frozen_of_row _ _ i _ _ h4
          clear h3 h4 hN hb4 hno hrw hr3 hsp4 hsr4 hxp4 hf4
          gi_wp2
          go_roundw
          case rel => exact ⟨pre ++ [it], _, HN.out.1, HN.out.2.1, HN.out.2.2.1, rfl, HN.out.2.2.2.1, HN.out.2.2.2.2.1, HN.out.2.2.2.2.2, .inr ⟨⟨x', ap', cp', r', ar', cr'⟩, by rw [restOf_snoc]; exact HF4.out, rfl, rfl, rfl, HGD.out⟩⟩
          case measure => simp [okOf, lenOf]; omega
  · have hz1 := hb1.size
    have hb1b : b < W.heap.size := by omega
    have hR1 : rowOf b (w1.alloc (.cells #[.int .u16 (x.tx.toNat : Int), b8 x.unit, .slice ap x.pdu.length cp] 25)) = none := (rowOf_same (World.cell?_of_block ((grown_alloc hb1 _).block b hb1b (by simp)))).trans hrow1
    have HS := Lib.hid (show Between b0 n0 b w.heap.size w1.heap.size J w (.slice ar r.length cr) (.bool true) (w1.alloc (.cells #[.int .u16 (x.tx.toNat : Int), b8 x.unit, .slice ap x.pdu.length cp] 25)) from
      ⟨[], _, hJ _ W _ none h0 (grown_alloc hb1 _) (fun r h => by cases h), Steps.nil _, ((hW.mono hn0).trans (hb1.mono (by omega))).alloc (by omega) _, rfl, heap_alloc_new w1 _,
        (fun k hk => by rw [hR1] at hk; cases hk), (fun i h => by cases h), .inr ⟨⟨x, ap, cp, r, ar, cr⟩, hf, rfl, rfl, rfl, ⟨⟨(first_some hf).1.1, (hsp.alloc (Nat.le_refl _) _).more (by simp), fun y hy => ⟨(by rw [hR1]; exact fun h => by cases h), by have := hxp y hy; omega⟩⟩, hsr.below ((hb1.mono (by omega)).alloc (by omega) _) (Nat.le_refl _)⟩, fun ⟨y, hy, h⟩ => by
          have hlt : y.block < w1.heap.size := by
            obtain ⟨bb, off, he, hb, _⟩ := hsp.cells (by have := (first_some hf).1.1; omega)
            have hy2 : ap = some y := hy
            rw [hy2] at he; injection he with he; subst he; exact hb
          omega⟩⟩)
    clear hf hb1 hsp hsr hxp hR1
    gi_wp2
    gi_loopw [4, 5] (Between b0 n0 b w.heap.size w1.heap.size J w) (fun v4 v5 _ => if okOf v5 = true then lenOf v4 + 1 else 0)
    case atStart => exact HS.out
    case round =>
      have hrel := hrel
      unfold Between at hrel
      obtain ⟨pre, cs, hJp, hst, hbw, hcs, hp, hrw, hno, hor⟩ := hrel
      rcases hor with ⟨hfn, rfl, rfl⟩ | ⟨it, hfs, rfl, rfl, rfl, hg, hnp⟩
      · have HD := Lib.hid (And.intro (hst.done hfn) hJp)
        clear hst hfn hJp HS
        gi_wp2
        refine ⟨fun _ h => (by cases h), ?_⟩
        gi_wp2
        go_end0
        exact ⟨⟨_, rfl⟩, pre, HD.out.1, HD.out.2⟩
      · obtain ⟨fn, tmps, assign, body, hy, hR⟩ := hY pre it wr hJp hg (by have := hst.len; omega)
        have hv0 := cell_of_row _ _ 0 _ _ _ hp
        have hv1 := cell_of_row _ _ 1 _ _ _ hp
        have hv2 := cell_of_row _ _ 2 _ _ _ hp
        have HP := Lib.hid hp
        have HG := Lib.hid hg
        have HF := Lib.hid hfs
        have HST := Lib.hid hst
        clear hp hg hfs hst hrel
        gi_wp2
        refine ⟨(fun h => by cases h), ?_⟩
        refine hR.mono ?_
        rintro e W3 ⟨rfl, hJ3, hk3⟩
        have HK := Lib.hid hk3
        have HJ := Lib.hid hJ3
        clear hk3 hJ3 hv0 hv1 hv2 hy hR
        gi_wp2
        refine ⟨trivial, (fun h => by cases h), ?_⟩
        refine (callsIn_wide.2 (first_any n0 _ _ _ it.r W3 (by have := HK.out.size; have := hbw.size; omega) (HG.out.2.below HK.out.below (Nat.le_refl _)))).mono ?_
        rintro e w4 (⟨hf4, rfl, hb4⟩ | ⟨x', r', hf4, ap', cp', ar', cr', rfl, hsp4, hsr4, hb4, hxp4⟩)
        · obtain ⟨h3, h4, hr3, hN⟩ := next_no hJ (show W.heap.size ≤ w1.heap.size by omega) (show w.heap.size ≤ w1.heap.size by omega) (show n0 ≤ w1.heap.size by omega) hb HST.out HF.out hbw HP.out (fun h => by have := hbx _ h; omega) hrw hno hnp HJ.out HK.out hb4
          have HN := Lib.hid (hN (.int .u16 0) (.int .u8 0) (.slice none 0 0))
          have hv0 := cell_of_row _ _ 0 _ _ _ h4
          have hv1 := cell_of_row _ _ 1 _ _ _ h4
          have hv2 := cell_of_row _ _ 2 _ _ _ h4
          have hz := fun i => frozen_of_row _ _ i _ _ h4
          clear h3 h4 hN hb4 hno hrw
          gi_wp2
          go_roundw
          case rel => exact ⟨pre ++ [it], _, HN.out.1, HN.out.2.1, HN.out.2.2.1, rfl, HN.out.2.2.2.1, HN.out.2.2.2.2.1, HN.out.2.2.2.2.2, .inl ⟨by rw [restOf_snoc]; exact hf4, rfl, rfl⟩⟩
          case measure => simp [okOf, lenOf]
        · obtain ⟨h3, h4, hr3, hN⟩ := next_no hJ (show W.heap.size ≤ w1.heap.size by omega) (show w.heap.size ≤ w1.heap.size by omega) (show n0 ≤ w1.heap.size by omega) hb HST.out HF.out hbw HP.out (fun h => by have := hbx _ h; omega) hrw hno hnp HJ.out HK.out hb4
          have HN := Lib.hid (hN (.int .u16 (x'.tx.toNat : Int)) (b8 x'.unit) (.slice ap' x'.pdu.length cp'))
          have hp3 : w1.heap.size < W3.heap.size := (Array.getElem?_eq_some_iff.1 h3).1
          have HGD := Lib.hid (next_good (n0 := n0) (b := b) (n1 := w.heap.size) (p := w1.heap.size) hb4 (by omega) (by omega) hp3 (by omega) (by omega) hr3 hsp4 hsr4 hxp4 (first_some hf4).1.1 (.int .u16 (x'.tx.toNat : Int)) (b8 x'.unit) (.slice ap' x'.pdu.length cp'))
          have hlen4 : r'.length < it.r.length := by rw [(first_some hf4).2, List.length_append, packN_length]; omega
          have HF4 := Lib.hid hf4
          have hv0 := cell_of_row _ _ 0 _ _ _ h4
          have hv1 := cell_of_row _ _ 1 _ _ _ h4
          have hv2 := cell_of_row _ _ 2 _ _ _ h4
          have hz := fun i => frozen_of_row _ _ i _ _ h4
          clear h3 h4 hN hb4 hno hrw hr3 hsp4 hsr4 hxp4 hf4
          gi_wp2
          go_roundw
          case rel => exact ⟨pre ++ [it], _, HN.out.1, HN.out.2.1, HN.out.2.2.1, rfl, HN.out.2.2.2.1, HN.out.2.2.2.2.1, HN.out.2.2.2.2.2, .inr ⟨⟨x', ap', cp', r', ar', cr'⟩, by rw [restOf_snoc]; exact HF4.out, rfl, rfl, rfl, HGD.out⟩⟩
          case measure => simp [okOf, lenOf]; omega
end Go.Proofs.Yteekdginloljjaa.MbW
