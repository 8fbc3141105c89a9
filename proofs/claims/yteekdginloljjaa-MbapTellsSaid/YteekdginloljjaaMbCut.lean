/- Bytes cut into frames. -/
import Derived.Test.YteekdginloljjaaMbFrames
import Derived.Test.YteekdginloljjaaGrowN
import Derived.RangeFuncBox
import Derived.Maps.AppendAt
open Go.RowKit Go.Shelf
namespace Go.Proofs.Yteekdginloljjaa.MbW
open MbM Mem ToldW
attribute [local go_sem] Oper.semAt_some

abbrev itC (it : It) : List Value := [.int .u16 (it.x.tx.toNat : Int), b8 it.x.unit, .slice it.ap it.x.pdu.length it.cp]
def rowC (xs : List It) : List Value := xs.flatMap itC
theorem rowC_snoc (xs : List It) (it : It) : rowC (xs ++ [it]) = rowC xs ++ itC it := by simp [rowC]
theorem infoF : (Try.prog.info? 25).map (fun i => (i.zero, i.size, i.bytes)) = some (some (.agg zeroF), 3, 32) := by kernel_rfl

theorem _root_.Go.Proofs.Yteekdginloljjaa.Mem.Sl.keep' {α : Type} {f : α → Value} {w w' : World} {B n c : Nat} {a : Option Addr} {l : List α} (h : Sl f w B a n c l) (hk : ∀ y : Addr, a = some y → w'.heap[y.block]? = w.heap[y.block]?) : Sl f w' B a n c l := by
  obtain ⟨h1, h2, h3, h5, h4⟩ := h
  refine ⟨h1, h2, h3, h5, fun hn => ?_⟩
  obtain ⟨b, off, e, hb, hc⟩ := h4 hn
  exact ⟨b, off, e, hb, fun i x hx => (World.cell?_of_block (w := w) (w' := w') (a := ⟨b, off + i, none⟩) (hk ⟨b, off, none⟩ e)).trans (hc i x hx)⟩
theorem PduOk.lt {b n1 : Nat} {it : It} {W : World} (h : PduOk b n1 it W) : ∀ y : Addr, it.ap = some y → y.block < W.heap.size ∧ ∃ o : Obj, W.heap[y.block]? = some o ∧ o.isCells = true := fun y hy => by
  obtain ⟨bb, off, e, hbb, hc⟩ := h.2.1.cells h.1
  rw [hy] at e; injection e with e; subst e
  obtain ⟨o, ho, hoc⟩ := cells_of_cell (hc 0 _ (List.getElem?_eq_getElem h.1))
  exact ⟨hbb, o, ho, hoc⟩
theorem PduOk.keep {b n1 : Nat} {it : It} {W W' : World} (h : PduOk b n1 it W) (hs : W.heap.size ≤ W'.heap.size) (hrow : ∀ k, rowOf b W' = some k → rowOf b W = some k ∨ W.heap.size ≤ k) (hb : ∀ y : Addr, it.ap = some y → W'.heap[y.block]? = W.heap[y.block]?) : PduOk b n1 it W' := by
  have hlt := h.lt
  obtain ⟨h0, hS, h6⟩ := h
  refine ⟨h0, (hS.more hs).keep' (fun y hy => hb y hy), fun y hy => ⟨fun e => ?_, (h6 y hy).2⟩⟩
  rcases hrow _ e with h1 | h1
  · exact (h6 y hy).1 h1
  · have := (hlt y hy).1; omega
theorem PduOk.kept {b n1 : Nat} {it : It} {W W' : World} {row : Option Nat} (h : PduOk b n1 it W) (hg : W.grownBy W' row) (hb : b < W.heap.size) (hbr : row ≠ some b) (hr : ∀ y : Addr, it.ap = some y → row ≠ some y.block) : PduOk b n1 it W' :=
  h.keep hg.size (fun k hk => .inl (by rw [← hk]; exact (rowOf_same (World.cell?_of_block (hg.block b hb (fun e => hbr e.symm)))).symm)) fun y hy => hg.block _ (h.lt y hy).1 (fun e => hr y hy e.symm)

/-- What the variables hold between two rounds. -/
def CutI (b0 : List UInt8) (w : World) (n1 : Nat) (pre : List It) (W : World) : Prop :=
  (∃ v, Boxed W w.heap.size 35 v ∧ W.ownsRow w.heap.size 25 3 v pre.length (rowC pre)) ∧
  (∃ ar cr, Boxed W (w.heap.size + 1) 23 (.slice ar (restOf b0 pre).length cr) ∧ Sl b8 W w.heap.size ar (restOf b0 pre).length cr (restOf b0 pre)) ∧
  (∀ it ∈ pre, PduOk w.heap.size n1 it W) ∧ Below w.heap.size w W

theorem CutI.kept {b0 : List UInt8} {w : World} {n1 : Nat} {pre : List It} {W W' : World} {row : Option Nat} (h : CutI b0 w n1 pre W) (hn1 : w.heap.size + 2 ≤ n1) (hg : W.grownBy W' row)
    (hr : ∀ r, row = some r → n1 ≤ r ∧ rowOf w.heap.size W ≠ some r ∧ ∀ it ∈ pre, ∀ y : Addr, it.ap = some y → y.block ≠ r) : CutI b0 w n1 pre W' := by
  obtain ⟨⟨v, hv, ho⟩, ⟨ar, cr, hb, hs⟩, hp, hbel⟩ := h
  have hlo : ∀ k, k < w.heap.size + 2 → some k ≠ row := fun k hk e => by have := (hr k e.symm).1; omega
  have hrow : rowOf w.heap.size W = v.ownBlock := by unfold rowOf; rw [hv.cell]
  refine ⟨⟨v, hv.kept hg (hlo _ (by omega)), ho.kept hg ?_⟩, ⟨ar, cr, hb.kept hg (hlo _ (by omega)), hs.keep fun p hp => World.cell?_of_block (hg.block _ (by have := hbel.size; omega) (hlo _ (by omega)))⟩, fun it hit => (hp it hit).kept hg (by have := hv.lt; omega) (fun e => hlo _ (by omega) e.symm) (fun y hy e => ((hr _ e).2.2 it hit y hy) rfl),
    hbel.grown hg hbel.size (fun k e => by have := (hr k e).1; omega)⟩
  cases hrow' : row with
  | none =>
    cases hv' : v.ownBlock with
    | none => exact .inl rfl
    | some k => exact .inr (fun h => by cases h)
  | some r => exact .inr (fun e => (hr r hrow').2.1 (hrow.trans e))
theorem CutI.own {b0 : List UInt8} {w : World} {n1 : Nat} (hn1 : w.heap.size + 2 ≤ n1) : OwnFrom n1 (CutI b0 w n1) := fun pre W W' row h hg hr => by
  refine h.kept hn1 hg fun r e => ?_
  obtain ⟨h1, o, ho, hc⟩ := hr r e
  obtain ⟨⟨v, hv, hown⟩, -, hp, -⟩ := h
  refine ⟨h1, fun e2 => ?_, fun it hit y hy e2 => ?_⟩
  · rw [show rowOf w.heap.size W = v.ownBlock by unfold rowOf; rw [hv.cell]] at e2
    rcases hown.2 with ⟨rfl, _⟩ | ⟨g, cap, cur, rfl, _, hh, _⟩
    · simp [Value.ownBlock] at e2
    · obtain rfl : g = r := by simpa [Value.ownBlock] using e2
      rw [ho] at hh; injection hh with hh; subst hh; cases hc
  · obtain ⟨-, o', ho', hc'⟩ := (hp it hit).lt y hy
    rw [e2, ho] at ho'; injection ho' with ho'; subst ho'; rw [hc] at hc'; cases hc'
theorem CutI.bears {b0 : List UInt8} {w : World} {n1 : Nat} (hn1 : w.heap.size + 2 ≤ n1) : Bears n1 w.heap.size Owns (CutI b0 w n1) := fun _ _ _ _ h hg hr =>
  h.kept hn1 hg fun r e => ⟨(hr r e).1, (hr r e).2.2.1, fun it hit y hy e2 => (hr r e).2.2.2 it hit ⟨y, hy, e2⟩⟩

/-- The frames that bytes begin with, in memory of their own, how many bytes they have, and what becomes of the rest. -/
def CutTo (b : List UInt8) (w : World) (e : Ending) (w' : World) : Prop :=
  ∃ (xs : List It) (s : List UInt8) (v : Value), Cuts b (xs.map It.x) s ∧ e = .returned (.tuple #[v, .int .i64 ((b.length : Int) - (s.length : Int)), .int .i64 (if begunB s = true then 0 else 10)]) ∧
    w'.ownsRow w.heap.size 25 3 v xs.length (rowC xs) ∧ (∀ it ∈ xs, Sl b8 w' w'.heap.size it.ap it.x.pdu.length it.cp it.x.pdu ∧ ∀ y : Addr, it.ap = some y → w.heap.size ≤ y.block) ∧ Below w.heap.size w w'

theorem cut_end {b0 : List UInt8} {w : World} {n1 : Nat} {pre : List It} {it : It} {W w4 : World} {v v' u : Value} {o : Obj} (hn1 : w.heap.size + 2 ≤ n1) (hI : CutI b0 w n1 pre W) (hv : Boxed W w.heap.size 35 v) (ho : W.ownsRow w.heap.size 25 3 v pre.length (rowC pre))
    (hb : Boxed W (w.heap.size + 1) 23 u) (hpo : PduOk w.heap.size n1 it W) (hrest : Sl b8 W w.heap.size it.ar it.r.length it.cr it.r) (hown : w4.ownsRow w.heap.size 25 3 v' (pre.length + 1) (rowC pre ++ itC it)) (hg0 : Grew (W.alloc o) v w4 v') :
    Boxed w4 w.heap.size 35 v ∧ Boxed (w4.setCell ⟨w.heap.size, 0, none⟩ v') (w.heap.size + 1) 23 u ∧
    KeepsFrom n1 W ((w4.setCell ⟨w.heap.size, 0, none⟩ v').setCell ⟨w.heap.size + 1, 0, none⟩ (.slice it.ar it.r.length it.cr)) ∧
    KeepsBut w.heap.size (fun k => k = w.heap.size ∨ k = w.heap.size + 1) w.heap.size W ((w4.setCell ⟨w.heap.size, 0, none⟩ v').setCell ⟨w.heap.size + 1, 0, none⟩ (.slice it.ar it.r.length it.cr)) ∧
    CutI b0 w n1 (pre ++ [it]) ((w4.setCell ⟨w.heap.size, 0, none⟩ v').setCell ⟨w.heap.size + 1, 0, none⟩ (.slice it.ar it.r.length it.cr)) := by
  have hg := hg0.alloc
  obtain ⟨-, -, hp, hbel⟩ := hI
  have hv4 : Boxed w4 w.heap.size 35 v := hv.kept hg.grown (hv.not_row (by decide) ho)
  have hb4 : Boxed w4 (w.heap.size + 1) 23 u := hb.kept hg.grown (hb.not_row (by decide) ho)
  have hv5 := (hv4.set v').other (show w.heap.size ≠ w.heap.size + 1 by omega) (.slice it.ar it.r.length it.cr)
  have hb4' := hb4.other (show w.heap.size + 1 ≠ w.heap.size by omega) v'
  have hb5 := hb4'.set (.slice it.ar it.r.length it.cr)
  have ho4 := hown.kept (grownBy_setCell' w4 w.heap.size v') (.inr (hv4.not_row (by decide) hown).symm)
  have ho5 := ho4.kept (grownBy_setCell' _ (w.heap.size + 1) (.slice it.ar it.r.length it.cr)) (.inr (hb4'.not_row (by decide) ho4).symm)
  have hs4 := hg.size
  have hs5 : ((w4.setCell ⟨w.heap.size, 0, none⟩ v').setCell ⟨w.heap.size + 1, 0, none⟩ (.slice it.ar it.r.length it.cr)).heap.size = w4.heap.size := by simp [World.size_setCell]
  have hbase := hbel.size
  have hown0 : ∀ k, v.ownBlock = some k → w.heap.size ≤ k := fun k hk => (ho.lt k hk).1
  have hrow2 : rowOf w.heap.size W = v.ownBlock := by unfold rowOf; rw [hv.cell]
  have hrow5 : rowOf w.heap.size ((w4.setCell ⟨w.heap.size, 0, none⟩ v').setCell ⟨w.heap.size + 1, 0, none⟩ (.slice it.ar it.r.length it.cr)) = v'.ownBlock := by unfold rowOf; rw [hv5.cell]
  have hbw : Below w.heap.size W ((w4.setCell ⟨w.heap.size, 0, none⟩ v').setCell ⟨w.heap.size + 1, 0, none⟩ (.slice it.ar it.r.length it.cr)) := (((Below.refl _ W).grown hg.grown hbase hown0).setCell (Nat.le_refl _) _).setCell (show w.heap.size ≤ w.heap.size + 1 by omega) _
  have hblk : ∀ k, k < W.heap.size → k ≠ w.heap.size → k ≠ w.heap.size + 1 → v.ownBlock ≠ some k → ((w4.setCell ⟨w.heap.size, 0, none⟩ v').setCell ⟨w.heap.size + 1, 0, none⟩ (.slice it.ar it.r.length it.cr)).heap[k]? = W.heap[k]? := fun k hk h1 h2 h3 => by
    rw [Below.heap_setCell _ _ _ _ h2, Below.heap_setCell _ _ _ _ h1]
    exact hg.grown.block k hk (fun e => h3 e.symm)
  have hkr : ∀ k, rowOf w.heap.size ((w4.setCell ⟨w.heap.size, 0, none⟩ v').setCell ⟨w.heap.size + 1, 0, none⟩ (.slice it.ar it.r.length it.cr)) = some k → rowOf w.heap.size W = some k ∨ (W.heap.size ≤ k ∧ k < ((w4.setCell ⟨w.heap.size, 0, none⟩ v').setCell ⟨w.heap.size + 1, 0, none⟩ (.slice it.ar it.r.length it.cr)).heap.size) := fun k hk => by
    rw [hrow5] at hk
    rw [hrow2, hs5]
    exact hg.row hown k hk
  refine ⟨hv4, hb4', ?_, ⟨hbw, by omega, hkr, fun k cs T fr hk hb hr => ?_⟩, ?_⟩
  · refine (((KeepsOthers.of_grownBy hg.grown fun j o' ej hj => ?_).trans (KeepsOthers.setCell _ _ _)).trans (KeepsOthers.setCell _ _ _)).from _
    rcases ho.2 with ⟨rfl, _⟩ | ⟨g, cap, cur, rfl, _, hgb, _⟩
    · simp [Value.ownBlock] at ej
    · obtain rfl : g = j := by simpa [Value.ownBlock] using ej
      rw [hgb] at hj; injection hj with hj; subst hj; rfl
  · rw [hblk k (Array.getElem?_eq_some_iff.1 hk).1 (fun e => hb (.inl e)) (fun e => hb (.inr e)) (by rw [← hrow2]; exact hr)]
    exact hk
  · refine ⟨⟨v', hv5, by rw [rowC_snoc, List.length_append]; exact ho5⟩, ⟨it.ar, it.cr, by rw [restOf_snoc]; exact hb5, by rw [restOf_snoc]; exact hrest.below hbw (Nat.le_refl _)⟩, fun i hi => ?_, hbel.trans hbw⟩
    have hpi : PduOk w.heap.size n1 i W := by
      rcases List.mem_append.1 hi with h | h
      · exact hp i h
      · simp at h; subst h; exact hpo
    refine hpi.keep (by omega) (fun k hk => (hkr k hk).imp id (fun h => h.1)) fun y hy => ?_
    have h1 := hpi.lt y hy
    have h2 := hpi.2.2 y hy
    exact hblk _ h1.1 (by omega) (by omega) (by rw [← hrow2]; exact h2.1)

theorem grown_below {W W' : World} (h : Below W.heap.size W W') : W.grownBy W' none := ⟨h.os, h.tape, h.output, h.size, fun k hk _ => h.block k hk⟩
theorem cut_shut {w W w5 : World} {n1 D : Nat} {v : Value} {xs : List It} (ho : W.ownsRow w.heap.size 25 3 v xs.length (rowC xs)) (hp : ∀ it ∈ xs, PduOk w.heap.size n1 it W) (hbel : Below w.heap.size w W) (hb : Below W.heap.size W w5) (hK : W.heap[D]? = some (.deferred (some []))) (hD : w.heap.size ≤ D) (hn1 : w.heap.size ≤ n1) :
    (w5.putObj D (.deferred none)).ownsRow w.heap.size 25 3 v xs.length (rowC xs) ∧ (∀ it ∈ xs, Sl b8 (w5.putObj D (.deferred none)) (w5.putObj D (.deferred none)).heap.size it.ap it.x.pdu.length it.cp it.x.pdu ∧ ∀ y : Addr, it.ap = some y → w.heap.size ≤ y.block) ∧ Below w.heap.size w (w5.putObj D (.deferred none)) := by
  have hDW : D < W.heap.size := (Array.getElem?_eq_some_iff.1 hK).1
  have hK5 := (hb.block D hDW).trans hK
  have hs := hbel.size
  have hbw : Below w.heap.size w w5 := hbel.trans (hb.mono hs)
  refine ⟨ownsRow_putObj (ho.kept (grown_below hb) (by cases v.ownBlock <;> simp)) _ hK5 rfl, fun it hit => ⟨?_, fun y hy => ?_⟩, hbw.trans (belowK_b (w := w) (Nat.le_refl _) w5 D _ _ hD hK5 rfl rfl)⟩
  · have h := hp it hit
    refine Sl.more (B := W.heap.size) (h.2.1.keep' fun y hy => ?_) (by simp; exact hb.size)
    obtain ⟨hlt, o, hO, hc⟩ := h.lt y hy
    rw [World.putObj_heap_other (fun e => by rw [e, hK] at hO; injection hO with hO; subst hO; cases hc)]
    exact hb.block _ hlt
  · obtain ⟨-, -, h6⟩ := hp it hit
    exact Nat.le_trans hn1 (h6 y hy).2

set_option maxRecDepth 100000 in
theorem frames_any (a : Option Addr) (nb c : Nat) (w : World) :
    Calls Try.prog 21 #[.slice a nb c] w fun e w' => e = .returned (.func (.func 26) #[] #[.pointer (some ⟨w.heap.size, 0, none⟩)]) ∧ w' = w.alloc (.cells #[.slice a nb c] 23) := by
  go_enter Try.func21, Try.ntmps21
  go_wp2_with fail
  go_ret
  exact ⟨rfl, rfl⟩
theorem KeepsBut.alloc_ {n0 b : Nat} {bx : Nat → Prop} {W : World} (hn : n0 ≤ W.heap.size) (hb : b < W.heap.size) (o : Obj) : KeepsBut n0 bx b W (W.alloc o) :=
  ⟨(Below.refl _ _).alloc hn o, by simp, fun k hk => .inl (by rw [← hk]; exact (rowOf_same (World.cell?_of_block (Below.heap_alloc W o b hb))).symm), fun k cs T fr hk _ _ => (Below.heap_alloc W o k (Array.getElem?_eq_some_iff.1 hk).1).trans hk⟩

set_option maxRecDepth 100000 in
set_option maxHeartbeats 2000000 in
theorem Cut_any (a : Option Addr) (nb c : Nat) (b0 : List UInt8) (w : World) (hl : Sl b8 w w.heap.size a nb c b0) (hm : nb ≤ 1000000) :
    Calls Try.prog 14 #[.slice a nb c] w (CutTo b0 w) := by
  refine (callsIn_wide (n := 5)).1 ?_
  obtain ⟨i0, hi, hz0, hz1, hz2⟩ := info_parts infoF
  have hz2' : i0.bytes = 32 := hz2
  have hlen := hl.len
  refine callsIn_of_wp_marks Try.func14 rfl trivial ?_ rfl
  simp only [Try.ntmps14, List.size_toArray, List.length_cons, List.length_nil, Nat.reduceAdd, Nat.reduceSub, Array.replicate_succ, Array.replicate_zero, List.push_toArray, List.append_toArray, List.nil_append, List.cons_append]
  gi_wp2
  refine ⟨trivial, ?_⟩
  refine (callsIn_wide.2 (frames_any a nb c _)).mono ?_
  rintro e w1 ⟨rfl, rfl⟩
  gi_wp2
  have bL : Boxed (((w.alloc (.cells #[.slice none 0 0] 35)).alloc (.cells #[.slice a nb c] 23)).alloc (.cells #[.slice a nb c] 23)) w.heap.size 35 (.slice none 0 0) := ((Boxed.new w _ _).alloc _).alloc _
  have bR : Boxed (((w.alloc (.cells #[.slice none 0 0] 35)).alloc (.cells #[.slice a nb c] 23)).alloc (.cells #[.slice a nb c] 23)) (w.heap.size + 1) 23 (.slice a nb c) := by
    have h := (Boxed.new (w.alloc (.cells #[.slice none 0 0] 35)) 23 (.slice a nb c)).alloc (.cells #[.slice a nb c] 23)
    rwa [World.size_alloc] at h
  have bF : Boxed (((w.alloc (.cells #[.slice none 0 0] 35)).alloc (.cells #[.slice a nb c] 23)).alloc (.cells #[.slice a nb c] 23)) (w.heap.size + 2) 23 (.slice a nb c) := by
    have h := Boxed.new ((w.alloc (.cells #[.slice none 0 0] 35)).alloc (.cells #[.slice a nb c] 23)) 23 (.slice a nb c)
    rwa [World.size_alloc, World.size_alloc] at h
  have hB3 : Below w.heap.size w (((w.alloc (.cells #[.slice none 0 0] 35)).alloc (.cells #[.slice a nb c] 23)).alloc (.cells #[.slice a nb c] 23)) := (((Below.refl _ w).alloc (Nat.le_refl _) _).alloc (by simp) _).alloc (by simp; omega) _
  have hz3 : (((w.alloc (.cells #[.slice none 0 0] 35)).alloc (.cells #[.slice a nb c] 23)).alloc (.cells #[.slice a nb c] 23)).heap.size = w.heap.size + 3 := by simp
  generalize ((w.alloc (.cells #[.slice none 0 0] 35)).alloc (.cells #[.slice a nb c] 23)).alloc (.cells #[.slice a nb c] 23) = w3 at *
  have hl3 : Sl b8 w3 w.heap.size a nb c b0 := hl.below hB3 (Nat.le_refl _)
  refine wpIn_told (F := Fence.wide) (n := 5) rfl (by omega) (gf := 26) (lb := #[.pointer (some ⟨w.heap.size + 2, 0, none⟩)]) rfl trivial (enters_of Try.func26 (by kernel_rfl) rfl)
    (frames_tells 4 (fun k => k = w.heap.size ∨ k = w.heap.size + 1) w.heap.size (w.heap.size + 2) w.heap.size a nb c b0 w3 (by omega) bF.cell (by omega) hl3 (fun k hk => by rcases hk with h | h <;> omega) (by omega) (by unfold rowOf; rw [bL.cell]; rfl))
    KeepsBut.trans (KeepsBut.put (by omega) (by omega)) (Below.refl _ _) (fun _ => rfl) (CutI b0 w w3.heap.size) (CutI.own (by omega)) (CutI.bears (by omega))
    ⟨⟨_, bL, World.ownsRow_nil _ _ _ _⟩, ⟨a, c, by rw [show (restOf b0 []).length = nb from hlen]; exact bR, hl3.norm⟩, (fun it h => by cases h), hB3⟩ ?round ?done
  case round =>
    rintro l pre it W hl0 hI ⟨hpo, hrest⟩ hpl ⟨r0, hlr⟩
    have hWn : w.heap.size + 3 ≤ W.heap.size := by have := hI.2.2.2.size; have h := (Array.getElem?_eq_some_iff.1 hlr).1; omega
    gi_wp2
    refine ⟨(KeepsOthers.alloc _ _).from _, KeepsBut.alloc_ (by omega) (by omega) _, ?_⟩
    rintro r ⟨r1, hl1⟩
    have hI2 := (CutI.own (b0 := b0) (w := w) (n1 := w3.heap.size) (by omega)).putObj (.loop r) ((CutI.own (by omega)).alloc _ hI) hl0 hl1 rfl
    have hpo1 := hpo.kept (World.grownBy_alloc W (.cells #[.int .u16 (it.x.tx.toNat : Int), .int .u8 (it.x.unit.toNat : Int), .slice it.ap it.x.pdu.length it.cp] 25) none) (by omega) (by simp) (by simp)
    have hpo2 := hpo1.kept (grownBy_putObj' _ l (.loop r)) (by simp; omega) (by simp; omega) (fun y hy e => by
      obtain ⟨-, o, ho, hc⟩ := hpo1.lt y hy
      injection e with e
      rw [← e, hl1] at ho; injection ho with ho; subst ho; cases hc)
    have hx2 := cells_put (o' := .loop r) hl1 rfl (heap_alloc_new W (.cells #[.int .u16 (it.x.tx.toNat : Int), .int .u8 (it.x.unit.toNat : Int), .slice it.ap it.x.pdu.length it.cp] 25))
    have hrest2 := hrest.below (((Below.refl w.heap.size W).alloc (by omega) (.cells #[.int .u16 (it.x.tx.toNat : Int), .int .u8 (it.x.unit.toNat : Int), .slice it.ap it.x.pdu.length it.cp] 25)).trans (belowK_b (w := w3) (by omega) _ l _ (.loop r) hl0 hl1 rfl rfl)) (Nat.le_refl _)
    have hz2w : ((W.alloc (.cells #[.int .u16 (it.x.tx.toNat : Int), .int .u8 (it.x.unit.toNat : Int), .slice it.ap it.x.pdu.length it.cp] 25)).putObj l (.loop r)).heap.size = W.heap.size + 1 := by simp
    generalize (W.alloc (.cells #[.int .u16 (it.x.tx.toNat : Int), .int .u8 (it.x.unit.toNat : Int), .slice it.ap it.x.pdu.length it.cp] 25)).putObj l (.loop r) = W2 at *
    have HI2 := Lib.hid hI2
    obtain ⟨⟨v, hv, ho⟩, ⟨ar, cr, hb, hs⟩, hp, hbel⟩ := hI2
    have hcv := hv.cell
    have hx0 := cell_of_row _ _ 0 _ _ _ hx2
    have hx1 := cell_of_row _ _ 1 _ _ _ hx2
    have hx2' := cell_of_row _ _ 2 _ _ _ hx2
    have HX := Lib.hid (And.intro hv (And.intro ho (And.intro hb (And.intro hpo2 hrest2))))
    have hbase := hbel.size
    clear hv ho hb hpo2 hrest2 hs hp hbel hI hpo hrest hx2 hpo1 hl1 hlr
    have HZ := Lib.hid hz2w
    clear hz2w
    gi_wp2_with (gi_at_builtin; refine wpListIn_append_valsN rfl (.tmp 15) (.tmp 17) 35 rfl w.heap.size 25 i0 (.agg zeroF) 3 32 Try.underlying35 hi hz0 hz1 hz2' rfl (by decide) v pre.length _ rfl (HX.out.2.1.alloc _) ⟨W2.heap.size, 0, none⟩ 1 1 (itC it) rfl rfl (new_cells W2 #[.int .u16 (it.x.tx.toNat : Int), .int .u8 (it.x.unit.toNat : Int), .slice it.ap it.x.pdu.length it.cp] _) (fun y hy => by simp at hy; rcases hy with rfl | rfl | rfl <;> rfl) (by unfold maxLen; omega) (by omega) (by simp; omega) ?_; intro v4 w4 hown4 hg4; obtain ⟨g4, cap4, rfl⟩ := ownsRow_succ hown4; obtain ⟨e1, e2, e3, e4, e5⟩ := cut_end (by omega) HI2.out HX.out.1 HX.out.2.1 HX.out.2.2.1 HX.out.2.2.2.1 HX.out.2.2.2.2 hown4 hg4; have hc4 := e1.cell; have hf4 := e1.frozen; have hc5 := e2.cell; have hf5 := e2.frozen; have HE := Lib.hid (And.intro e3 (And.intro e4 e5)); clear e1 e2 e3 e4 e5 hown4 hg4)
    exact HE.out
  case done =>
    rintro D xs W hD hS hI hK
    obtain ⟨⟨v, hv, ho⟩, ⟨ar, cr, hb, hs⟩, hp, hbel⟩ := hI
    have hcb := hb.cell
    have hcv := hv.cell
    have hW3 := hbel.size
    have hsl := cuts_suffix hS
    generalize hsr : restOf b0 xs = sr at *
    have hsn : sr.length ≤ 1000000 := by omega
    have HS := Lib.hid hS
    have HX := Lib.hid (And.intro hv (And.intro ho (And.intro hp hbel)))
    have HK := Lib.hid hK
    have HLEN := Lib.hid hlen
    have hm' : nb ≤ 1000000 := hm
    have HSS := Lib.hid hs
    clear hv ho hb hs hp hbel hS hK hlen hl hl3 bL bR bF hB3 hsr
    have hDW : D < W.heap.size := (Array.getElem?_eq_some_iff.1 HK.out).1
    have hwD : w.heap.size ≤ D := by omega
    have hwW : w.heap.size < W.heap.size := by omega
    gi_wp2
    refine ⟨trivial, ?_⟩
    have HBE := callsIn_wide (n := 4).2 (begun_any ar sr.length cr sr W (HSS.out.more hW3))
    cases hbg : begunB sr with
    | false =>
      rw [hbg] at HBE
      refine HBE.mono ?_
      rintro e w5 ⟨rfl, hb5⟩
      have hcv5 := (hb5.cell (p := ⟨w.heap.size, 0, none⟩) hwW).trans hcv
      have HE := Lib.hid (cut_shut HX.out.2.1 HX.out.2.2.1 HX.out.2.2.2 hb5 HK.out hwD (by omega))
      have HK5 := Lib.hid ((hb5.block D hDW).trans HK.out)
      have HBG := Lib.hid hbg
      clear hb5 HBE hcv hcb hbg
      gi_wp2
      refine ⟨by simp, .inl ⟨_, _, rfl, run_takeDeferred HK5.out, ?_⟩⟩
      refine ⟨_, results_tmp3 rfl _ _ _, xs, sr, v, HS.out, ?_, HE.out⟩
      rw [HBG.out, HLEN.out]
      rfl
    | true =>
      rw [hbg] at HBE
      refine HBE.mono ?_
      rintro e w5 ⟨rfl, hb5⟩
      have hcv5 := (hb5.cell (p := ⟨w.heap.size, 0, none⟩) hwW).trans hcv
      have HE := Lib.hid (cut_shut HX.out.2.1 HX.out.2.2.1 HX.out.2.2.2 hb5 HK.out hwD (by omega))
      have HK5 := Lib.hid ((hb5.block D hDW).trans HK.out)
      have HBG := Lib.hid hbg
      clear hb5 HBE hcv hcb hbg
      gi_wp2
      refine ⟨by simp, .inl ⟨_, _, rfl, run_takeDeferred HK5.out, ?_⟩⟩
      refine ⟨_, results_tmp3 rfl _ _ _, xs, sr, v, HS.out, ?_, HE.out⟩
      rw [HBG.out, HLEN.out]
      rfl
end Go.Proofs.Yteekdginloljjaa.MbW
