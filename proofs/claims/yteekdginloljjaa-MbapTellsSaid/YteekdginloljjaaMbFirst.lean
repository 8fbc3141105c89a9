/- The frame that bytes begin with. -/
import Derived.Test.YteekdginloljjaaMbA
import Derived.RegionTactic
import Derived.Deep.RegionHeld3
open Go.RowKit
namespace Go.Proofs.Yteekdginloljjaa.MbW
open MbM Mem

theorem results_cell_row_tmp2 {P : Program} {fn : Func} {p u u2 : Tmp} {ty : TypeId} (h : fn.results = #[.cell p ty, .tmp u, .tmp u2]) (tmps : Array Value) (w : World) (g : Nat) (t : TypeId) (cs : Array Value) (fr : Nat × Nat) (d : TypeDesc)
    (hp : tmps.getD p undef = .pointer (some ⟨g, 0, none⟩)) (hg : w.heap[g]? = some (.cells cs t fr))
    (hu : P.underlying ty = some d) (hd : (match d with | .struct _ | .array _ _ => true | _ => false) = true) (hi : (P.info? ty).map (·.size) = some cs.size) (v v2 : Value) (hv : tmps.getD u undef = v) (hv2 : tmps.getD u2 undef = v2) :
    (results fn tmps).run P w = .ok (.tuple #[.agg cs, v, v2]) w := by
  have hp' : tmps[p]?.getD undef = .pointer (some ⟨g, 0, none⟩) := by simpa using hp
  have hv' : tmps[u]?.getD undef = v := by simpa using hv
  have hv2' : tmps[u2]?.getD undef = v2 := by simpa using hv2
  simp [results, h, hp', hv', hv2', asAddr, run_loadVar_row w g t ty cs fr d hg hu hd hi]
abbrev zeroF : Array Value := #[.int .u16 0, .int .u8 0, .slice none 0 0]
abbrev frC (x : Fr) (a : Option Addr) (c : Nat) : Array Value := #[.int .u16 (x.tx.toNat : Int), b8 x.unit, .slice a x.pdu.length c]
theorem first_len {b : List UInt8} (h : b.length < 7) : first b = none := by unfold first; rw [if_neg]; omega
theorem first_over {b : List UInt8} (h : b.length < 6 + lenN b) : first b = none := by unfold first; rw [if_neg]; omega
theorem first_ok {b : List UInt8} (h7 : 7 ≤ b.length) (hb : begunB b = true) (hl : 6 + lenN b ≤ b.length) : first b = some (⟨txN b, b.getD 6 0, (b.take (6 + lenN b)).drop 7⟩, b.drop (6 + lenN b)) := by unfold first; rw [if_pos ⟨h7, hb, hl⟩]

/-- No frame. -/
def NoFirst (w : World) (e : Ending) (w' : World) : Prop := e = .returned (.tuple #[.agg zeroF, .slice none 0 0, .bool false]) ∧ Below w.heap.size w w'
/-- A frame, its bytes in memory of its own, and the rest, where it lay. -/
def YesFirst (B : Nat) (x : Fr) (r : List UInt8) (w : World) (e : Ending) (w' : World) : Prop :=
  ∃ ap cp ar cr, e = .returned (.tuple #[.agg (frC x ap cp), .slice ar r.length cr, .bool true]) ∧ Sl b8 w' w'.heap.size ap x.pdu.length cp x.pdu ∧ Sl b8 w B ar r.length cr r ∧ Below w.heap.size w w' ∧ ∀ y : Addr, ap = some y → w.heap.size ≤ y.block

set_option maxRecDepth 100000 in
set_option maxHeartbeats 1000000 in
theorem first_no (a : Option Addr) (n c : Nat) (b : List UInt8) (w : World) (hl : Sl b8 w w.heap.size a n c b) (hF : first b = none) :
    Calls Try.prog 19 #[.slice a n c] w (NoFirst w) := by
  have hlen := hl.len
  have hn := len_le hl
  have hB0 := fun o => (Below.refl w.heap.size w).alloc (Nat.le_refl _) o
  by_cases h7 : n < 7
  · have t7 : decide ((n : Int) < 7) = true := by simp; omega
    clear hl hlen hF h7
    go_enter Try.func19, Try.ntmps19
    go_wp2_with fail
    exact bodyPost_ret (results_cell_row_tmp2 rfl _ _ w.heap.size 25 zeroF (0, 0) _ rfl (heap_alloc_new w _) Try.underlying25 rfl (by kernel_rfl) _ _ rfl rfl) rfl ⟨rfl, hB0 _⟩
  have t7 : decide ((n : Int) < 7) = false := by simp; omega
  have HBE := Lib.hid (begun_any a n c b (w.alloc (.cells zeroF 25)) ((hl.alloc (Nat.le_refl _) _).more (by simp)))
  cases hbg : begunB b with
  | false =>
    rw [hbg] at HBE
    clear hl hlen hF h7 hbg
    go_enter Try.func19, Try.ntmps19
    go_wp2_with fail
    refine HBE.out.mono ?_
    rintro e w1 ⟨rfl, hb1⟩
    have HB := Lib.hid ((hB0 (.cells zeroF 25)).trans (hb1.mono (hB0 _).size))
    have HRow : Hid (w1.heap[w.heap.size]? = some (.cells zeroF 25 (0, 0))) := Lib.hid ((hb1.block _ (by simp)).trans (heap_alloc_new w _))
    clear hb1 HBE hB0
    go_wp2_with (refine wpList_store_row rfl 25 (.tmp 2) (.tmp 14) rfl w.heap.size zeroF rfl rfl 25 zeroF HRow.out (by kernel_rfl) (by kernel_rfl) (by kernel_rfl) ?_)
    exact bodyPost_ret (results_cell_row_tmp2 rfl _ _ w.heap.size 25 _ (0, 0) _ rfl (setRow_heap _ _ _ _ _ _ HRow.out) Try.underlying25 rfl (by kernel_rfl) _ _ rfl rfl) rfl ⟨rfl, below_setRow HB.out (Nat.le_refl _) _⟩
  | true =>
    have hov : n < 6 + lenN b := by
      rcases Nat.lt_or_ge n (6 + lenN b) with h | h
      · exact h
      · rw [first_ok (by omega) hbg (by omega)] at hF; cases hF
    rw [hbg] at HBE
    obtain ⟨bb, off, rfl, hbb, hc⟩ := hl.cells (by omega)
    have hx4 := hc 4 _ (hd_of (by omega))
    have hx5 := hc 5 _ (hd_of (by omega))
    have HL : Hid ((b.getD 4 0).toNat * 256 + (b.getD 5 0).toNat = lenN b) := by unfold Hid lenN; rw [hd_getD (by omega), hd_getD (by omega)]
    have hlt := lenN_lt b
    have hnle := hl.nle
    have hcle : c ≤ 9223372036854775807 := by have := hl.cle; unfold maxLen at this; exact this
    have hn6 : 6 ≤ n := by omega
    have tov : decide ((n : Int) < 6 + (lenN b : Int)) = true := by simp; omega
    clear hl hlen hF h7 hbg hc hov
    generalize lenN b = m at *
    generalize b.getD 4 0 = x4 at *
    generalize b.getD 5 0 = x5 at *
    go_enter Try.func19, Try.ntmps19
    go_wp2_with fail
    refine HBE.out.mono ?_
    rintro e w1 ⟨rfl, hb1⟩
    have HB := Lib.hid ((hB0 (.cells zeroF 25)).trans (hb1.mono (hB0 _).size))
    have HRow : Hid (w1.heap[w.heap.size]? = some (.cells zeroF 25 (0, 0))) := Lib.hid ((hb1.block _ (by simp)).trans (heap_alloc_new w _))
    have HLEN := Lib.hid (length_any x4 x5 bb off n c w1 hn6 hnle hcle ((HB.out.cell (p := ⟨bb, off + 4, none⟩) hbb).trans hx4) ((HB.out.cell (p := ⟨bb, off + 4 + 1, none⟩) hbb).trans hx5))
    rw [HL.out] at HLEN
    clear hb1 HBE hB0 hx4 hx5
    go_wp2_with fail
    refine HLEN.out.mono ?_
    rintro e w2 ⟨k, rfl, rfl⟩
    have HRow2 : Hid ((w1.drewN k).heap[w.heap.size]? = some (.cells zeroF 25 (0, 0))) := HRow
    have HB2 := Lib.hid (below_drawn HB.out k)
    go_wp2_with (refine wpList_store_row rfl 25 (.tmp 2) (.tmp 23) rfl w.heap.size zeroF rfl rfl 25 zeroF HRow2.out (by kernel_rfl) (by kernel_rfl) (by kernel_rfl) ?_)
    exact bodyPost_ret (results_cell_row_tmp2 rfl _ _ w.heap.size 25 _ (0, 0) _ rfl (setRow_heap _ _ _ _ _ _ HRow2.out) Try.underlying25 rfl (by kernel_rfl) _ _ rfl rfl) rfl ⟨rfl, below_setRow HB2.out (Nat.le_refl _) _⟩

theorem YesFirst.mk {B : Nat} {x : Fr} {r : List UInt8} {w w' : World} {ap ar : Option Addr} {np cp nr cr : Nat} {u : UInt8} (hu : u = x.unit) (hp : Sl b8 w' w'.heap.size ap np cp x.pdu) (hr : Sl b8 w B ar nr cr r) (hb : Below w.heap.size w w') (hx : ∀ y : Addr, ap = some y → w.heap.size ≤ y.block) :
    YesFirst B x r w (.returned (.tuple #[.agg #[.int .u16 (x.tx.toNat : Int), b8 u, .slice ap np cp], .slice ar nr cr, .bool true])) w' := by
  subst hu
  obtain rfl := hp.len
  obtain rfl := hr.len
  exact ⟨ap, cp, ar, cr, rfl, hp, hr, hb, hx⟩
theorem set3_heap {W : World} {g : Nat} {a0 a1 a2 : Value} {T : TypeId} (h : W.heap[g]? = some (.cells #[a0, a1, a2] T (0, 0))) (u v t : Value) :
    (((W.setCell ⟨g, 0, none⟩ u).setCell ⟨g, 1, none⟩ v).setCell ⟨g, 2, none⟩ t).heap[g]? = some (.cells #[u, v, t] T (0, 0)) := by
  have h0 := heap_setCell_same _ _ 0 _ _ u h
  have h1 := heap_setCell_same _ _ 1 _ _ v h0
  exact heap_setCell_same _ _ 2 _ _ t h1
theorem set3_end {w W w' : World} {g : Nat} {ap : Option Addr} {np cp : Nat} {l : List UInt8} {B : Nat} (hp : Sl b8 w' w'.heap.size ap np cp l) (hx : ∀ y : Addr, ap = some y → W.heap.size ≤ y.block) (hg : g < W.heap.size) (hb : Below B w W) (h4 : Below W.heap.size W w') (hB : B ≤ g) (u v t : Value) :
    Sl b8 (((w'.setCell ⟨g, 0, none⟩ u).setCell ⟨g, 1, none⟩ v).setCell ⟨g, 2, none⟩ t) (((w'.setCell ⟨g, 0, none⟩ u).setCell ⟨g, 1, none⟩ v).setCell ⟨g, 2, none⟩ t).heap.size ap np cp l ∧
    Below B w (((w'.setCell ⟨g, 0, none⟩ u).setCell ⟨g, 1, none⟩ v).setCell ⟨g, 2, none⟩ t) := by
  have hne : ∀ y : Addr, ap = some y → y.block ≠ g := fun y hy => by have := hx y hy; omega
  refine ⟨?_, (((hb.trans (h4.mono (by omega))).setCell hB _).setCell hB _).setCell hB _⟩
  rw [show (((w'.setCell ⟨g, 0, none⟩ u).setCell ⟨g, 1, none⟩ v).setCell ⟨g, 2, none⟩ t).heap.size = w'.heap.size by simp [World.size_setCell]]
  exact ((hp.set hne).set hne).set hne
set_option maxRecDepth 100000 in
set_option maxHeartbeats 1000000 in
theorem first_yes (B : Nat) (a : Option Addr) (n c : Nat) (b : List UInt8) (w : World) (hBw : B ≤ w.heap.size) (hl : Sl b8 w B a n c b) {x : Fr} {r : List UInt8} (hF : first b = some (x, r)) :
    Calls Try.prog 19 #[.slice a n c] w (YesFirst B x r w) := by
  have hlen := hl.len
  have hn := len_le hl
  have hB0 := fun o => (Below.refl w.heap.size w).alloc (Nat.le_refl _) o
  have hcond : 7 ≤ b.length ∧ begunB b = true ∧ 6 + lenN b ≤ b.length := by
    unfold first at hF
    split at hF
    · assumption
    · cases hF
  obtain ⟨h7, hbg, hov⟩ := hcond
  rw [first_ok h7 hbg hov] at hF
  injection hF with hF
  injection hF with hx hr
  have h2 : 2 ≤ lenN b ∧ lenN b ≤ 254 := by
    simp only [begunB, Bool.and_eq_true] at hbg
    exact ⟨of_decide_eq_true hbg.1.2, of_decide_eq_true hbg.2⟩
  have HBE := Lib.hid (begun_any a n c b (w.alloc (.cells zeroF 25)) (((hl.more hBw).alloc (Nat.le_refl _) _).more (by simp)))
  rw [hbg] at HBE
  obtain ⟨bb, off, rfl, hbb, hc⟩ := hl.cells (by omega)
  have hbw : bb < w.heap.size := by omega
  have hx0 := hc 0 _ (hd_of (by omega))
  have hx1 := hc 1 _ (hd_of (by omega))
  have hx4 := hc 4 _ (hd_of (by omega))
  have hx5 := hc 5 _ (hd_of (by omega))
  have hx6 := hc 6 _ (hd_of (by omega))
  rw [Nat.add_zero] at hx0
  have HL : Hid ((b.getD 4 0).toNat * 256 + (b.getD 5 0).toNat = lenN b) := by unfold Hid lenN; rw [hd_getD (by omega), hd_getD (by omega)]
  have HTX : Hid ((b.getD 0 0).toNat * 256 + (b.getD 1 0).toNat = x.tx.toNat) := by
    unfold Hid; rw [← hx]
    have h0 := hd_getD (b := b) (i := 0) (by omega)
    have h1 := hd_getD (b := b) (i := 1) (by omega)
    have := hd_lt b 0
    have := hd_lt b 1
    show _ = (txN b).toNat
    rw [← h0, ← h1]
    unfold txN
    simp; omega
  have HU : Hid (b.getD 6 0 = x.unit) := by unfold Hid; rw [← hx]
  have hnle := hl.nle
  have hcle : c ≤ 9223372036854775807 := by have := hl.cle; unfold maxLen at this; exact this
  have t7 : decide ((n : Int) < 7) = false := by simp; omega
  have tov : decide ((n : Int) < 6 + (lenN b : Int)) = false := by simp; omega
  have hpl : x.pdu.length = lenN b - 1 := by rw [← hx]; simp; omega
  have HSP : Hid (Sl b8 w B (some ⟨bb, off + 7, none⟩) (6 + lenN b - 7) (c - 7) x.pdu) := by
    have h1 := (hl.take_ (k := 6 + lenN b) (by omega)).from_ (k := 7) (by omega)
    rw [if_neg (by omega)] at h1
    have h1 : Sl b8 w B (some ⟨bb, off + 7, none⟩) (6 + lenN b - 7) (c - 7) ((b.take (6 + lenN b)).drop 7) := by simpa [Addr.add] using h1
    rw [← hx]; exact h1
  have hrl : r.length = n - (6 + lenN b) := by rw [← hr, List.length_drop, hlen]
  have HSR : Hid (Sl b8 w B (if c = 6 + lenN b then some ⟨bb, off, none⟩ else some ⟨bb, off + (6 + lenN b), none⟩) r.length (c - (6 + lenN b)) r) := by
    have h1 := hl.from_ (k := 6 + lenN b) (by omega)
    rw [hrl, ← hr]
    show Sl _ _ _ _ _ _ _
    split
    · next h => rw [if_pos h] at h1; exact h1
    · next h => rw [if_neg h] at h1; simpa [Addr.add] using h1
  have hn6 : 6 + lenN b ≤ n := by omega
  clear hl hlen hx hr h7 hbg hc hov hB0
  generalize lenN b = m at *
  generalize b.getD 4 0 = x4 at *
  generalize b.getD 5 0 = x5 at *
  generalize b.getD 0 0 = x0 at *
  generalize b.getD 1 0 = x1 at *
  generalize b.getD 6 0 = x6 at *
  have hB0 := fun o => (Below.refl w.heap.size w).alloc (Nat.le_refl _) o
  go_enter Try.func19, Try.ntmps19
  go_wp2_with fail
  refine HBE.out.mono ?_
  rintro e w1 ⟨rfl, hb1⟩
  have HB := Lib.hid ((hB0 (.cells zeroF 25)).trans (hb1.mono (hB0 _).size))
  have HRow : Hid (w1.heap[w.heap.size]? = some (.cells zeroF 25 (0, 0))) := Lib.hid ((hb1.block _ (by simp)).trans (heap_alloc_new w _))
  have HLEN := Lib.hid (length_any x4 x5 bb off n c w1 (by omega) hnle hcle ((HB.out.cell (p := ⟨bb, off + 4, none⟩) hbw).trans hx4) ((HB.out.cell (p := ⟨bb, off + 4 + 1, none⟩) hbw).trans hx5))
  rw [HL.out] at HLEN
  clear hb1 HBE hB0 hx4 hx5
  go_wp2_with fail
  refine HLEN.out.mono ?_
  rintro e w2 ⟨k, rfl, rfl⟩
  have HRow2 : Hid ((w1.drewN k).heap[w.heap.size]? = some (.cells zeroF 25 (0, 0))) := HRow
  have HB2 := Lib.hid (below_drawn HB.out k)
  clear HRow HB HLEN
  generalize w1.drewN k = w2 at *
  have hb0 := (HB2.out.cell (p := ⟨bb, off, none⟩) hbw).trans hx0
  have hb1 := (HB2.out.cell (p := ⟨bb, off + 1, none⟩) hbw).trans hx1
  have hb6 := (HB2.out.cell (p := ⟨bb, off + 6, none⟩) hbw).trans hx6
  clear hx0 hx1 hx6 hpl
  have h7c : ¬ c = 7 := by omega
  have hb0d : w2.drew.cell? ⟨bb, off, none⟩ = some (b8 x0) := hb0
  have hb1d : w2.drew.cell? ⟨bb, off + 1, none⟩ = some (b8 x1) := hb1
  have hb6d : w2.drew.cell? ⟨bb, off + 6, none⟩ = some (b8 x6) := hb6
  go_wp2_with fail
  have he : (6 : Int) + (m : Int) = ((6 + m : Nat) : Int) := by omega
  have hpl : x.pdu.length = 6 + m - 7 := HSP.out.len
  have he7 : 8 ≤ 6 + m := by omega
  have hem : 6 + m ≤ 260 := by omega
  rw [he]
  clear he HL h2 tov t7
  generalize 6 + m = e at *
  have HNUM := Lib.hid (number_any x0 x1 bb off n c w2.drew (by omega) (by omega) hb0d hb1d)
  rw [HTX.out] at HNUM
  have hbs : bb < w2.heap.size := by have := HB2.out.size; omega
  have HCL : Hid (∀ q, Calls Try.prog 25 #[.slice (some ⟨bb, off + 7, none⟩) (e - 7) (c - 7)] (w2.drewN q) (Fresh b8 x.pdu (w2.drewN q))) := Lib.hid fun q => Clone_any _ _ _ _ _ (((HSP.out.more hBw).below HB2.out (Nat.le_refl _)).more HB2.out.size) (by omega)
  have i1 : (6 : Int) < (n : Int) := by omega
  have i2 : (7 : Int) ≤ (e : Int) := by omega
  have i3 : (e : Int) ≤ (n : Int) := by omega
  have i4 : (0 : Int) ≤ (e : Int) := by omega
  have i5 : (e : Int) ≤ (c : Int) := by omega
  have i6 : (n : Int) ≤ (c : Int) := by omega
  have hws : w.heap.size < w2.heap.size := (Array.getElem?_eq_some_iff.1 HRow2.out).1
  have hne : ¬ w.heap.size = bb := by omega
  have hne2 : ¬ bb = w.heap.size := by omega
  by_cases hce : c = e
  · subst hce
    have hr0 : r.length = 0 := by omega
    have HR : Hid (Sl b8 w B (some ⟨bb, off, none⟩) 0 0 r) := by have h := HSR.out; rw [if_pos rfl, Nat.sub_self, hr0] at h; exact h
    clear hrl HSR hr0
    go_region_held3 (fun w' => w'.cell? ⟨bb, off + 6, none⟩ = some (b8 x6))
      (first
        | with_reducible exact hb6
        | with_reducible exact hb6d
        | with_reducible exact hq6
        | go_keep)
      (first
        | (go_at_call 24; (with_reducible refine HNUM.out.mono ?_); rintro e w3 ⟨q, rfl, rfl⟩)
        | (go_at_call 25; (with_reducible refine (HCL.out _).mono ?_); rintro e w4 ⟨ap, cp, rfl, hsp, hb4, hxp⟩; have hq6 := (hb4.cell (p := ⟨bb, off + 6, none⟩) hbs).trans hb6d; have HR4 := Lib.hid ((hb4.block _ hws).trans HRow2.out); have hv0 := cell_of_row _ _ 0 _ _ _ HR4.out; have hv1 := cell_of_row _ _ 1 _ _ _ HR4.out; have hv2 := cell_of_row _ _ 2 _ _ _ HR4.out; have hz := fun i => frozen_of_row _ _ i _ _ HR4.out; have HP4 := Lib.hid (And.intro hsp hxp); have HB4 := Lib.hid hb4; clear hsp hxp hb4))
    have HS := Lib.hid (set3_heap HR4.out (.int .u16 (x.tx.toNat : Int)) (b8 x6) (.slice ap (c - 7) cp))
    have HE := Lib.hid (set3_end HP4.out.1 HP4.out.2 hws (below_drawn HB2.out (1 + q)) HB4.out (Nat.le_refl _) (.int .u16 (x.tx.toNat : Int)) (b8 x6) (.slice ap (c - 7) cp))
    clear hq6 hv0 hv1 hv2 hz HR4 HB4 hb0 hb1 hb6 hb0d hb1d hb6d
    go_wp2_with fail
    refine bodyPost_ret (v := .tuple #[.agg #[.int .u16 (x.tx.toNat : Int), b8 x6, .slice ap (c - 7) cp], .slice (some ⟨bb, off, none⟩) (0) (0), .bool true]) (results_cell_row_tmp2 rfl _ _ w.heap.size 25 _ (0, 0) _ rfl HS.out Try.underlying25 rfl (by kernel_rfl) _ _ rfl rfl) rfl ?_
    exact YesFirst.mk HU.out (by have := HE.out.1; rw [← hpl] at this ⊢; exact this) HR.out HE.out.2 (fun y hy => by have := HP4.out.2 y hy; simp at this; omega)
  · have HR : Hid (Sl b8 w B (some ⟨bb, off + e, none⟩) (n - e) (c - e) r) := by have h := HSR.out; rw [if_neg hce, hrl] at h; exact h
    clear hrl HSR
    go_region_held3 (fun w' => w'.cell? ⟨bb, off + 6, none⟩ = some (b8 x6))
      (first
        | with_reducible exact hb6
        | with_reducible exact hb6d
        | with_reducible exact hq6
        | go_keep)
      (first
        | (go_at_call 24; (with_reducible refine HNUM.out.mono ?_); rintro e w3 ⟨q, rfl, rfl⟩)
        | (go_at_call 25; (with_reducible refine (HCL.out _).mono ?_); rintro e w4 ⟨ap, cp, rfl, hsp, hb4, hxp⟩; have hq6 := (hb4.cell (p := ⟨bb, off + 6, none⟩) hbs).trans hb6d; have HR4 := Lib.hid ((hb4.block _ hws).trans HRow2.out); have hv0 := cell_of_row _ _ 0 _ _ _ HR4.out; have hv1 := cell_of_row _ _ 1 _ _ _ HR4.out; have hv2 := cell_of_row _ _ 2 _ _ _ HR4.out; have hz := fun i => frozen_of_row _ _ i _ _ HR4.out; have HP4 := Lib.hid (And.intro hsp hxp); have HB4 := Lib.hid hb4; clear hsp hxp hb4))
    have HS := Lib.hid (set3_heap HR4.out (.int .u16 (x.tx.toNat : Int)) (b8 x6) (.slice ap (e - 7) cp))
    have HE := Lib.hid (set3_end HP4.out.1 HP4.out.2 hws (below_drawn HB2.out (1 + q)) HB4.out (Nat.le_refl _) (.int .u16 (x.tx.toNat : Int)) (b8 x6) (.slice ap (e - 7) cp))
    clear hq6 hv0 hv1 hv2 hz HR4 HB4 hb0 hb1 hb6 hb0d hb1d hb6d
    go_wp2_with fail
    refine bodyPost_ret (v := .tuple #[.agg #[.int .u16 (x.tx.toNat : Int), b8 x6, .slice ap (e - 7) cp], .slice (some ⟨bb, off + e, none⟩) (n - e) (c - e), .bool true]) (results_cell_row_tmp2 rfl _ _ w.heap.size 25 _ (0, 0) _ rfl HS.out Try.underlying25 rfl (by kernel_rfl) _ _ rfl rfl) rfl ?_
    exact YesFirst.mk HU.out (by have := HE.out.1; rw [← hpl] at this ⊢; exact this) HR.out HE.out.2 (fun y hy => by have := HP4.out.2 y hy; simp at this; omega)
end Go.Proofs.Yteekdginloljjaa.MbW
