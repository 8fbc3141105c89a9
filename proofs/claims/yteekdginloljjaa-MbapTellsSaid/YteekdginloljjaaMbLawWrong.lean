/- A stream ends at the first head that may not be. -/
import Derived.Test.YteekdginloljjaaMbPacked
import Derived.Test.YteekdginloljjaaMbLawBack
import Derived.Deep.AppendLies
import Derived.Deep.DeepCutAuto
import Derived.Deep.RegionHeld3
open Go.RowKit
namespace Go.Proofs.Yteekdginloljjaa.MbW
open MbM Mem

theorem rowM_at {xs : List Fm} {i : Nat} {e : Fm} (h : xs[i]? = some e) : (rowM xs)[i * 3]? = some (.int .u16 (e.x.tx.toNat : Int)) ∧ (rowM xs)[i * 3 + 1]? = some (b8 e.x.unit) ∧ (rowM xs)[i * 3 + 2]? = some (.slice e.ap e.x.pdu.length e.cp) := by
  induction xs generalizing i with
  | nil => simp at h
  | cons y xs ih =>
    have e : rowM (y :: xs) = fmC y ++ rowM xs := rfl
    cases i with
    | zero =>
      simp at h; subst h
      rw [e]; exact ⟨rfl, rfl, rfl⟩
    | succ i =>
      have h' := ih (i := i) (by simpa using h)
      rw [e]
      have k : ∀ j, (fmC y ++ rowM xs)[(i + 1) * 3 + j]? = (rowM xs)[i * 3 + j]? := fun j => by
        rw [List.getElem?_append_right (by simp; omega)]
        congr 1; simp; omega
      exact ⟨(k 0).trans h'.1, (k 1).trans h'.2.1, (k 2).trans h'.2.2⟩
theorem FrsAt.of_ownM {w : World} {base n : Nat} {v : Value} {es : List Fm} (h : w.ownsRow base 25 3 v n (rowM es)) (hn : es.length = n) (hp : ∀ e ∈ es, Sl b8 w w.heap.size e.ap e.x.pdu.length e.cp e.x.pdu) :
    ∃ a c, v = .slice a n c ∧ FrsAt w w.heap.size a n c es := by
  have hcells := @World.ownsRow.cells _ _ _ _ _ _ _ h
  have hlt := h.lt
  rcases h.2 with ⟨rfl, h0⟩ | ⟨g, cap, cur, rfl, hb, hh, hnc, hm, hs, ht⟩
  · subst h0
    exact ⟨none, 0, rfl, hn, Nat.le_refl _, by unfold maxLen; omega, fun h => absurd h (by omega), hp⟩
  · refine ⟨_, cap, rfl, hn, hnc, hm, fun _ => ⟨g, 0, rfl, (hlt g rfl).2, fun i e he => ?_⟩, hp⟩
    obtain ⟨k1, k2, k3⟩ := rowM_at he
    have ha : ∀ i, (⟨g, 0, none⟩ : Addr).add i = ⟨g, 0 + i, none⟩ := fun i => by by_cases h0 : i = 0 <;> simp [Addr.add, h0]
    have g1 := hcells (g := g) rfl _ _ k1
    have g2 := hcells (g := g) rfl _ _ k2
    have g3 := hcells (g := g) rfl _ _ k3
    rw [ha] at g1 g2 g3
    rw [← Nat.add_assoc] at g2 g3
    exact ⟨g1, g2, g3⟩
/-- The six bytes of a head, one of them another one. -/
def headL (a c : Nat) : List UInt8 := ([1, 2, 0, 0, 0, 9] : List UInt8).set a (UInt8.ofNat c)
def mayB (a c : Nat) : Bool := (decide (a < 5) && decide (c = 0)) || (decide (a = 5) && decide (2 ≤ c) && decide (c ≤ 254))
theorem headL_length (a c : Nat) : (headL a c).length = 6 := by simp [headL]
theorem headL_hd {a c : Nat} (ha : 2 ≤ a) (ha6 : a ≤ 5) (hc : c < 256) (m : List UInt8) : hd ((headL a c).take (a + 1) ++ m) a = c := by
  have hn : (UInt8.ofNat c).toNat = c := by simp; omega
  rcases (show a = 2 ∨ a = 3 ∨ a = 4 ∨ a = 5 by omega) with rfl | rfl | rfl | rfl <;> simp [headL, hd] <;> omega
theorem headL_not {a c : Nat} (ha : 2 ≤ a) (ha6 : a ≤ 5) (hc : c < 256) (h : mayB a c = false) (m : List UInt8) : begunB ((headL a c).take (a + 1) ++ m) = false := by
  cases hb : begunB ((headL a c).take (a + 1) ++ m) with
  | false => rfl
  | true =>
    exfalso
    obtain ⟨h2, h3, h4, h5, h6⟩ := (begun_iff _).1 hb
    have hd := headL_hd ha ha6 hc m
    have : mayB a c = true := by
      rcases (show a = 2 ∨ a = 3 ∨ a = 4 ∨ a = 5 by omega) with rfl | rfl | rfl | rfl
      · rw [h2] at hd; simp [mayB, ← hd]
      · rw [h3] at hd; simp [mayB, ← hd]
      · rw [h4] at hd; simp [mayB, ← hd]
      · rw [hd] at h5 h6; simp [mayB, h5, h6]
    rw [this] at h; cases h
theorem cuts_stop {l : List Fr} (hl : ∀ x ∈ l, Right x) {t : List UInt8} (h : begunB t = false) : Cuts (flat l ++ t) l t := cuts_iff.2 ⟨rfl, hl, not_begun_first h⟩

/-- 'append(out, s...)', out the call's own, s any slice that reads, as it runs. -/
theorem run_append_any {P : Program} {w : World} {α : Type} {f : α → Value} (hf : ∀ x, (f x).oneCell' = true) (base : Nat) (t ty e : TypeId) (i : TypeInfo) (z : Value) (bytes : Nat) (ht : P.underlying t = some (.slice e)) (hi : P.info? e = some i) (hz : i.zero = some z)
    (hsize : i.size = 1) (hby : i.bytes = bytes) (hzs : z.cells.size = 1) (v : Value) (n : Nat) (xs : List Value) (hown : w.ownsRow base e 1 v n xs) (A : Option Addr) (m c : Nat) {B : Nat} {l : List α} (hS : Sl f w B A m c l)
    (h63 : n + m ≤ maxLen) (hbytes : (n + m) * bytes ≤ 140737488355328) (hbase : base ≤ w.heap.size) :
    ∃ v' w', (Builtin.append_ #[t, t] ty #[v, .slice A m c]).run P w = .ok v' w' ∧ w'.ownsRow base e 1 v' (n + m) (xs ++ l.map f) ∧ Grew w v w' v' := by
  cases A with
  | none =>
    obtain ⟨rfl, rfl, rfl⟩ := sl_nil hS
    exact ⟨v, w, run_append_owned_none (P := P) (w := w) base t ty e i 1 ht hi v n xs hown, by simpa using hown, Grew.refl _ _⟩
  | some ad =>
    refine run_append_grew (P := P) (w := w) base t ty e i z bytes ht hi hz hsize hby hzs v n xs hown ad m c (l.map f) (by simpa using hS.len) (fun j u hu => ?_) (fun u hu => ?_) h63 hbytes hbase
    · rw [List.getElem?_map] at hu
      obtain ⟨y, hy, rfl⟩ := Option.map_eq_some_iff.1 hu
      have hj : j < l.length := (List.getElem?_eq_some_iff.1 hy).1
      obtain ⟨b, off, e1, _, hc⟩ := hS.cells (by have := hS.len; omega)
      injection e1 with e1
      subst e1
      rw [← hc j y hy]
      by_cases h0 : j = 0 <;> simp [Addr.add, h0]
    · obtain ⟨y, _, rfl⟩ := List.mem_map.1 hu
      exact hf y
theorem step_append_any {P : Program} {w : World} {ops : Array Oper} {o : Oper} {a : Act} {K : Act → World → Prop} {Q : Exit → Act → World → Prop} {E : Prop} {α : Type} {f : α → Value} (hf : ∀ x, (f x).oneCell' = true) (hgd : o.guard = none) (s x : Operand) (t : TypeId)
    (ho : o.op = .call { callee := .builtin .append, args := #[s, x], argTypes := #[t, t] })
    (base : Nat) (e : TypeId) (i : TypeInfo) (z : Value) (bytes : Nat) (ht : P.underlying t = some (.slice e)) (hi : P.info? e = some i) (hz : i.zero = some z) (hsize : i.size = 1) (hby : i.bytes = bytes) (hzs : z.cells.size = 1)
    (v : Value) (n : Nat) (xs : List Value) (hs : a.eval s = v) (hown : w.ownsRow base e 1 v n xs) (A : Option Addr) (m c : Nat) (hx : a.eval x = .slice A m c) {B : Nat} {l : List α} (hS : Sl f w B A m c l)
    (h63 : n + m ≤ maxLen) (hbytes : (n + m) * bytes ≤ 140737488355328) (hbase : base ≤ w.heap.size)
    (h : ∀ v' w', w'.ownsRow base e 1 v' (n + m) (xs ++ l.map f) → Grew w v w' v' → K (a.put o.dst v') w') :
    if Region.wanted o (yielded ops a.tmps) = true then Oper.wp P o a w K Q else E := by
  rw [if_pos (by simp [Region.wanted, hgd])]
  obtain ⟨v', w', hr, h2, h3⟩ := run_append_any (P := P) (w := w) hf base t o.type e i z bytes ht hi hz hsize hby hzs v n xs hown A m c hS h63 hbytes hbase
  unfold Oper.wp execOp
  simp only [ho, resolve, invoke, builtin, Sem.run_bind, Sem.run_pure, Result.andThen_ok, List.map_toArray, List.map_cons, List.map_nil, hs, hx, hr]
  exact h v' w' h2 h3
theorem head_row {W : World} {g p cc : Nat} {T : TypeId} (hcc : cc < 256) (h : W.heap[g]? = some (.cells ((#[.int .u8 1, .int .u8 2, .int .u8 0, .int .u8 0, .int .u8 0, .int .u8 9] : Array Value).setIfInBounds p (.int .u8 (cc : Int))) T (0, 0))) :
    Sl b8 W W.heap.size (some ⟨g, 0, none⟩) 6 6 (headL p cc) := by
  have hc : (UInt8.ofNat cc).toNat = cc := by simp; omega
  have e : (#[.int .u8 1, .int .u8 2, .int .u8 0, .int .u8 0, .int .u8 0, .int .u8 9] : Array Value).setIfInBounds p (.int .u8 (cc : Int)) = ((headL p cc).map b8).toArray := by
    apply Array.toList_inj.1
    simp only [Array.toList_setIfInBounds, headL, List.map_set, List.toArray]
    rw [b8, hc]
    rfl
  rw [e] at h
  refine ⟨headL_length _ _, Nat.le_refl _, by unfold maxLen; omega, (fun h => by cases h), fun _ => ⟨g, 0, rfl, (Array.getElem?_eq_some_iff.1 h).1, fun i x hx => ?_⟩⟩
  rw [Nat.zero_add, cell_of_row _ _ i _ _ _ h, List.getElem?_toArray, List.getElem?_map, hx]
  rfl
/-- More than these frames, and their bytes, perhaps. -/
def CutMay (l : List Fr) (w : World) (en : Ending) (w' : World) : Prop :=
  ∃ a g c, ∃ k e : Int, en = .returned (.tuple #[.slice a g c, .int .i64 k, .int .i64 e]) ∧ l.length ≤ g ∧ g ≤ 9223372036854775807 ∧ ((flat l).length : Int) ≤ k ∧ k ≤ 9223372036854775807 ∧ Below w.heap.size w w'
theorem Cut_may {a : Option Addr} {nb c : Nat} {b : List UInt8} {w : World} (hl : Sl b8 w w.heap.size a nb c b) (hm : nb ≤ 1000000) {l : List Fr} (hR : ∀ x ∈ l, Right x) {t : List UInt8} (hb : b = flat l ++ t) :
    Calls Try.prog 14 #[.slice a nb c] w (CutMay l w) := by
  refine (Cut_any a nb c b w hl hm).mono ?_
  rintro en w' ⟨xs, s', v, h1, rfl, ho, hp, hbw⟩
  subst hb
  obtain ⟨k, hk, hc⟩ := cuts_flat hR h1
  have hs := cuts_suffix hc
  have hlen := hl.len
  rw [List.length_append] at hlen
  obtain ⟨a', c', rfl, hF⟩ := FrsAt.of_own ho rfl (fun it hit => (hp it hit).1)
  have hx : xs.length = l.length + k.length := by have := congrArg List.length hk; simpa using this
  refine ⟨a', xs.length, c', _, _, rfl, by omega, ?_, ?_, ?_, hbw⟩
  · have h1 := hF.2.1; have h3 := hF.2.2.1; unfold maxLen at h3; omega
  · rw [List.length_append]; omega
  · rw [List.length_append]; omega
set_option maxRecDepth 100000 in
set_option maxHeartbeats 8000000 in
theorem MbapWrong_walk (a : Option Addr) (n c : Nat) (es : List Fm) (x cc : Nat) (am : Option Addr) (nm cm : Nat) (m : List UInt8) (w : World) (hL : FrsAt w w.heap.size a n c es) (hx : x < 256) (hcc : cc < 256) (hm : Sl b8 w w.heap.size am nm cm m) :
    Calls Try.prog 6 #[.slice a n c, .int .u8 (x : Int), .int .u8 (cc : Int), .slice am nm cm] w (Says (.bool true) w) := by
  have hn : n ≤ 9223372036854775807 := by have h1 := hL.2.1; have h3 := hL.2.2.1; unfold maxLen at h3; omega
  have hnm := len_le hm
  have hncm := hm.nle
  have hcmm : cm ≤ 9223372036854775807 := by have := hm.cle; unfold maxLen at this; exact this
  obtain ⟨i0, hi, hz0, hz1, hz2⟩ := info_parts info8
  have hz2' : i0.bytes = 1 := hz2
  have HL := Lib.hid hL
  have HM := Lib.hid hm
  clear hL hm
  go_enter Try.func6, Try.ntmps6
  go_wp2_with fail
  go_loopw [21] (fun i wr => ∃ k : Nat, k ≤ n ∧ i = .int .i64 (k : Int) ∧ Below w.heap.size w wr) (fun i _ => n - (intOf i).toNat)
  case atStart => exact ⟨0, by omega, rfl, Below.refl _ _⟩
  case round =>
    obtain ⟨k, hk, rfl, hb⟩ := hrel
    by_cases hlt : k < n
    · obtain ⟨b1, o1, e, rfl, hb1, he, hmem, k1, k2, k3, hs⟩ := (HL.out.below hb (Nat.le_refl _)).at_ hlt
      have hlp := len_le hs
      have ht : decide ((k : Int) < (n : Int)) = true := by simp; omega
      have i1 : (0 : Int) ≤ (k : Int) := by omega
      have i2 : (k : Int) < (n : Int) := by omega
      have hsz := hb.size
      have HB := Lib.hid hb
      have HAW := Lib.hid (awake_any (wr.alloc (.cells (frC e.x e.ap e.cp) 25)))
      obtain ⟨⟨tx, un, p⟩, ap, cp⟩ := e
      simp only at k1 k2 k3 HAW hlp
      clear hs he hmem hb
      by_cases h300 : 300 < p.length
      · have t3 : decide (300 < (p.length : Int)) = true := by simp; omega
        clear h300
        go_wp2_with fail
        refine HAW.out.mono ?_
        rintro en w1 ⟨rfl, hb1⟩
        have HB1 := Lib.hid ((HB.out.alloc hsz (.cells (frC ⟨tx, un, p⟩ ap cp) 25)).trans (hb1.mono (by simp; omega)))
        clear hb1
        go_wp2_with fail
        go_ret
        exact ⟨ret_bool rfl, HB1.out⟩
      · have t3 : decide (300 < (p.length : Int)) = false := by simp; omega
        clear HAW
        go_wp2_with fail
        go_roundw
        case rel => exact ⟨k + 1, by omega, by go_num, HB.out.alloc hsz _⟩
        case measure => simp [intOf]; omega
    · obtain rfl : k = n := by omega
      have ht : decide ((k : Int) < (k : Int)) = false := by simp
      have HPA := Lib.hid (packed_any a k c es wr ((HL.out.below hb (Nat.le_refl _)).more hb.size))
      have HB := Lib.hid hb
      clear hb
      go_wp2_with fail
      refine HPA.out.mono ?_
      rintro en w1 ⟨v, u, rfl, hov, hou, hb1⟩
      have hw1 := HB.out.trans (hb1.mono HB.out.size)
      have hgl := good_len (es.take 12)
      have hgr := good_right (es.take 12)
      have hfl := flatM_len hgr
      rw [List.length_take] at hgl
      have hpd : ∀ e ∈ good (es.take 12), Sl b8 w1 w1.heap.size e.ap e.x.pdu.length e.cp e.x.pdu := fun e he => ((HL.out.2.2.2.2 e (List.mem_of_mem_take (List.mem_filter.1 he).1)).below hw1 (Nat.le_refl _)).more hw1.size
      obtain ⟨av, cv, rfl, hfr⟩ := FrsAt.of_ownM hov rfl hpd
      obtain ⟨au, cu, rfl, hsu⟩ := Sl.of_own hou
      have hnE : (good (es.take 12)).length ≤ 12 := by omega
      have hnF : (flatM (good (es.take 12))).length ≤ 3120 := by omega
      have HE : Hid (∀ e ∈ good (es.take 12), Right e.x) := hgr
      generalize good (es.take 12) = E at *
      have HW1 := Lib.hid hw1
      have HFR := Lib.hid hfr
      have HSU := Lib.hid hsu
      have hnv := hfr.2.1
      have hcv : cv ≤ 9223372036854775807 := by have h3 := hfr.2.2.1; unfold maxLen at h3; exact h3
      have hnu := hsu.nle
      have hcu : cu ≤ 9223372036854775807 := by have := hsu.cle; unfold maxLen at this; exact this
      clear hov hou hb1 hw1 hgl hgr hfl hpd hfr hsu HPA HB
      go_upto_region 10 with (fail)
      have hx4 : x % 4 < 4 := Nat.mod_lt _ (by omega)
      rw [show (2 : Int) + (x : Int) % 4 = ((2 + x % 4 : Nat) : Int) by omega]
      have ha2 : 2 ≤ 2 + x % 4 := by omega
      have ha5 : 2 + x % 4 ≤ 5 := by omega
      generalize 2 + x % 4 = p at *
      have hr6 : (w1.alloc (.cells #[.int .u8 1, .int .u8 2, .int .u8 0, .int .u8 0, .int .u8 0, .int .u8 9] 5)).heap[w1.heap.size]? = some (.cells #[.int .u8 1, .int .u8 2, .int .u8 0, .int .u8 0, .int .u8 0, .int .u8 9] 5 (0, 0)) := heap_alloc_new w1 _
      have hb6 : Below w1.heap.size w1 (w1.alloc (.cells #[.int .u8 1, .int .u8 2, .int .u8 0, .int .u8 0, .int .u8 0, .int .u8 9] 5)) := (Below.refl _ _).alloc (Nat.le_refl _) _
      have hs6 : (w1.alloc (.cells #[.int .u8 1, .int .u8 2, .int .u8 0, .int .u8 0, .int .u8 0, .int .u8 9] 5)).heap.size = w1.heap.size + 1 := by simp
      generalize w1.alloc (.cells #[.int .u8 1, .int .u8 2, .int .u8 0, .int .u8 0, .int .u8 0, .int .u8 9] 5) = w2 at *
      obtain ⟨v0, hv0⟩ : ∃ v0, w2.cell? ⟨w1.heap.size, p, none⟩ = some v0 := ⟨_, (cell_of_row _ _ p _ _ _ hr6).trans (Array.getElem?_eq_getElem (by simp; omega))⟩
      have hz0' := frozen_of_row _ _ p _ _ hr6
      have HST := Lib.hid (heap_setCell_same _ _ p _ _ (.int .u8 (cc : Int)) hr6)
      have HB6 := Lib.hid (hb6.setCell (p := ⟨w1.heap.size, p, none⟩) (Nat.le_refl _) (.int .u8 (cc : Int)))
      have HS6 : Hid ((w2.setCell ⟨w1.heap.size, p, none⟩ (.int .u8 (cc : Int))).heap.size = w1.heap.size + 1) := Lib.hid (by simp [World.size_setCell, hs6])
      have i1 : (0 : Int) ≤ (p : Int) := by omega
      have i2 : (p : Int) < 6 := by omega
      have HTL := Lib.hid (head_row hcc HST.out)
      clear hr6 hb6 hs6 HST hx4
      have hM : (p < 5 ∧ cc = 0) ∨ (p < 5 ∧ cc ≠ 0) ∨ (p = 5 ∧ cc < 2) ∨ (p = 5 ∧ 254 < cc) ∨ (p = 5 ∧ 2 ≤ cc ∧ cc ≤ 254) := by omega
      rcases hM with ⟨h1, h2⟩ | ⟨h1, h2⟩ | ⟨h1, h2⟩ | ⟨h1, h2⟩ | ⟨h1, h2, h3⟩
      · have HMAY : Hid (mayB p cc = true) := Lib.hid (by simp [mayB]; omega)
        have t1 : decide ((p : Int) < 5) = true := by simp; omega
        have t2 : ((cc : Int) == 0) = true := by simp; omega
        clear h1 h2
        go_upto_region 12 with (fail)
        have HSU3 := Lib.hid (HSU.out.below HB6.out (Nat.le_refl _))
        have HM3 := Lib.hid ((HM.out.below HW1.out (Nat.le_refl _)).below HB6.out HW1.out.size)
        have HFR3 := Lib.hid (HFR.out.below HB6.out (Nat.le_refl _))
        have HW3 := Lib.hid (HW1.out.trans (HB6.out.mono HW1.out.size))
        have hz13 := HB6.out.size
        have hzw := HW1.out.size
        clear HSU HM HFR HW1 HB6 HS6 hv0 hz0' HL
        generalize w2.setCell ⟨w1.heap.size, p, none⟩ (.int .u8 (cc : Int)) = w3 at *
        obtain ⟨mm, hmm⟩ : ∃ mm : Nat, mm = min nm 3 := ⟨_, rfl⟩
        have hmmn : mm ≤ nm := by omega
        have hmm3 : mm ≤ 3 := by omega
        have j3 : (0 : Int) ≤ (mm : Int) := by omega
        have j4 : (mm : Int) ≤ (cm : Int) := by omega
        have j6 : (if (3 : Int) < (nm : Int) then (3 : Int) else (nm : Int)) = (mm : Int) := by split <;> omega
        clear hmm
        have HER := Lib.hid (show ∀ x ∈ E.map Fm.x, Right x from fun x hx => by obtain ⟨e, he, rfl⟩ := List.mem_map.1 hx; exact HE.out e he)
        have HTX := Lib.hid (show flatM E ++ (headL p cc).take (p + 1) ++ m.take mm = flat (E.map Fm.x) ++ ((headL p cc).take (p + 1) ++ m.take mm) from List.append_assoc _ _ _)
        have HT1 := Lib.hid (HTL.out.take_ (k := p + 1) (by omega))
        have HT2 := Lib.hid (HM3.out.take_ (k := mm) (by omega))
        have hp6 : p + 1 ≤ 6 := by omega
        have HTB := Lib.hid (show ((flatM E ++ (headL p cc).take (p + 1)) ++ m.take mm).length = (flatM E).length + (p + 1) + mm by rw [List.length_append, List.length_append, HT1.out.len, HT2.out.len])
        have q1 : (0 : Int) ≤ (p : Int) + 1 := by omega
        have q2 : (p : Int) + 1 ≤ 6 := by omega
        have q3 : ((p : Int) + 1).toNat = p + 1 := by omega
        have hwr : IntKind.i64.wrap ((p : Int) + 1) = (p : Int) + 1 := IntWalk.i64_in _ (by omega)
        go_region_held3 (fun _ => True)
          (first
            | trivial
            | go_keep)
          (first
            | (refine step_append_any (f := b8) b8_one (by rfl) (.tmp 64) (.tmp 65) 23 (by rfl) w3.heap.size 5 i0 (.int .u8 0) 1 Try.underlying23 hi hz0 hz1 hz2' rfl (.slice (some ⟨w3.heap.size, 0, none⟩) 0 0) 0 [] (by rfl) (World.ownsRow_made w3.drew #[] 0 (Nat.le_refl _) (by unfold maxLen; omega) rfl) au (flatM E).length cu (by rfl) (HSU3.out.alloc (w1 := w3.drew) hz13 _) (by unfold maxLen; omega) (by omega) (by simp) ?_; intro v5 w5 hown5 hg5; simp only [Nat.zero_add, List.nil_append] at hown5; have HA5 := Lib.hid (((Below.refl w3.heap.size w3.drew).alloc (Nat.le_refl _) (.cells #[] 5)).grown hg5.grown (by simp) (by simp [Value.ownBlock])); have HO5 := Lib.hid hown5; have hy5 := HA5.out.size; clear hown5 hg5)
            | (revert HO5; intro HO5; refine step_append_any (f := b8) b8_one (by rfl) (.tmp 66) (.tmp 70) 23 (by rfl) w3.heap.size 5 i0 (.int .u8 0) 1 Try.underlying23 hi hz0 hz1 hz2' rfl v5 (flatM E).length ((flatM E).map b8) (by rfl) HO5.out (some ⟨w1.heap.size, 0, none⟩) (p + 1) 6 (by rfl) ((HT1.out.drawn 1).below HA5.out (Nat.le_refl _)) (by unfold maxLen; omega) (by omega) (by simpa using hy5) ?_; intro v6 w6 hown6 hg6; rw [← List.map_append] at hown6; have HA6 := Lib.hid (Grew.below HA5.out hg6 (by simpa using hy5) (fun k hk => (HO5.out.lt k hk).1)); have HO6 := Lib.hid hown6; have hy6 := HA6.out.size; clear hown6 hg6)
            | (revert HO6; intro HO6; (refine step_append_any (f := b8) b8_one (by rfl) (.tmp 71) (.tmp 76) 23 (by rfl) w3.heap.size 5 i0 (.int .u8 0) 1 Try.underlying23 hi hz0 hz1 hz2' rfl v6 ((flatM E).length + (p + 1)) ((flatM E ++ (headL p cc).take (p + 1)).map b8) (by rfl) HO6.out am mm cm (by rfl) ((HT2.out.drawn 1).below HA6.out (by omega)) (by unfold maxLen; omega) (by omega) (by simpa using hy6) ?_; intro v7 w7 hown7 hg7; rw [← List.map_append] at hown7; have HA7 := Lib.hid (Grew.below HA6.out hg7 (by simpa using hy6) (fun k hk => (HO6.out.lt k hk).1)); obtain ⟨a7, c7, rfl, hs7⟩ := Sl.of_own hown7; have HS7 := Lib.hid hs7; clear hown7 hg7 hs7))
            | (revert HS7; intro HS7; go_at_call 14; (with_reducible refine (Cut_may (l := E.map Fm.x) (t := (headL p cc).take (p + 1) ++ m.take mm) HS7.out (by have := HTB.out; omega) HER.out HTX.out).mono ?_); rintro en w8 ⟨a8, g8, c8, k8, e8, rfl, hg8, hg8', hk8, hk8', hb8⟩; have HB8 := Lib.hid hb8; have s1 : decide (((flatM E).length : Int) ≤ k8) = true := decide_eq_true hk8; have s2 : decide (E.length ≤ g8) = true := decide_eq_true (by rw [List.length_map] at hg8; exact hg8); clear hb8 hg8 hk8))
        all_goals
          have HW8 := Lib.hid (HW3.out.trans (((below_ahead (k := 1) HA7.out).mono HW3.out.size).trans (HB8.out.mono (by have := HA7.out.size; have h := HW3.out.size; simp at this; omega))))
          have HAW := Lib.hid (awake_any w8)
          clear HSU3 HM3 HFR3 HTL HT1 HT2 HTB HA5 HO5 HA6 HO6 HA7 HS7 HB8 hwr q1 q2 q3
          (try go_wp2_with fail)
          refine HAW.out.mono ?_
          rintro en w9 ⟨rfl, hb9⟩
          have HW9 := Lib.hid (HW8.out.trans (hb9.mono HW8.out.size))
          clear hb9
          go_wp2_with fail
          go_ret
          exact ⟨ret_bool rfl, HW9.out⟩
      · have HMAY : Hid (mayB p cc = false) := Lib.hid (by simp [mayB]; omega)
        have t1 : decide ((p : Int) < 5) = true := by simp; omega
        have t2 : ((cc : Int) == 0) = false := by simp; omega
        have t3 : ((p : Int) == 5) = false := by simp; omega
        clear h1 h2
        go_upto_region 12 with (fail)
        have HSU3 := Lib.hid (HSU.out.below HB6.out (Nat.le_refl _))
        have HM3 := Lib.hid ((HM.out.below HW1.out (Nat.le_refl _)).below HB6.out HW1.out.size)
        have HFR3 := Lib.hid (HFR.out.below HB6.out (Nat.le_refl _))
        have HW3 := Lib.hid (HW1.out.trans (HB6.out.mono HW1.out.size))
        have hz13 := HB6.out.size
        have hzw := HW1.out.size
        clear HSU HM HFR HW1 HB6 HS6 hv0 hz0' HL
        generalize w2.setCell ⟨w1.heap.size, p, none⟩ (.int .u8 (cc : Int)) = w3 at *
        obtain ⟨mm, hmm⟩ : ∃ mm : Nat, mm = min nm 3 := ⟨_, rfl⟩
        have hmmn : mm ≤ nm := by omega
        have hmm3 : mm ≤ 3 := by omega
        have j3 : (0 : Int) ≤ (mm : Int) := by omega
        have j4 : (mm : Int) ≤ (cm : Int) := by omega
        have j6 : (if (3 : Int) < (nm : Int) then (3 : Int) else (nm : Int)) = (mm : Int) := by split <;> omega
        clear hmm
        have hnb := headL_not ha2 ha5 hcc HMAY.out (m.take mm)
        have HCS := Lib.hid (show Cuts (flatM E ++ (headL p cc).take (p + 1) ++ m.take mm) (E.map Fm.x) ((headL p cc).take (p + 1) ++ m.take mm) by rw [List.append_assoc]; exact cuts_stop (fun x hx => by obtain ⟨e, he, rfl⟩ := List.mem_map.1 hx; exact HE.out e he) hnb)
        have HKK := Lib.hid (show (((flatM E ++ (headL p cc).take (p + 1) ++ m.take mm).length : Nat) : Int) - (((headL p cc).take (p + 1) ++ m.take mm).length : Int) = ((flatM E).length : Int) by rw [List.append_assoc, List.length_append]; omega)
        have HEE := Lib.hid (show (if begunB ((headL p cc).take (p + 1) ++ m.take mm) = true then (0 : Int) else 10) = 10 by rw [hnb]; rfl)
        clear hnb
        have HT1 := Lib.hid (HTL.out.take_ (k := p + 1) (by omega))
        have HT2 := Lib.hid (HM3.out.take_ (k := mm) (by omega))
        have hp6 : p + 1 ≤ 6 := by omega
        have HTB := Lib.hid (show ((flatM E ++ (headL p cc).take (p + 1)) ++ m.take mm).length = (flatM E).length + (p + 1) + mm by rw [List.length_append, List.length_append, HT1.out.len, HT2.out.len])
        have q1 : (0 : Int) ≤ (p : Int) + 1 := by omega
        have q2 : (p : Int) + 1 ≤ 6 := by omega
        have q3 : ((p : Int) + 1).toNat = p + 1 := by omega
        have hwr : IntKind.i64.wrap ((p : Int) + 1) = (p : Int) + 1 := IntWalk.i64_in _ (by omega)
        go_region_held3 (fun _ => True)
          (first
            | trivial
            | go_keep)
          (first
            | (refine step_append_any (f := b8) b8_one (by rfl) (.tmp 64) (.tmp 65) 23 (by rfl) w3.heap.size 5 i0 (.int .u8 0) 1 Try.underlying23 hi hz0 hz1 hz2' rfl (.slice (some ⟨w3.heap.size, 0, none⟩) 0 0) 0 [] (by rfl) (World.ownsRow_made w3.drew #[] 0 (Nat.le_refl _) (by unfold maxLen; omega) rfl) au (flatM E).length cu (by rfl) (HSU3.out.alloc (w1 := w3.drew) hz13 _) (by unfold maxLen; omega) (by omega) (by simp) ?_; intro v5 w5 hown5 hg5; simp only [Nat.zero_add, List.nil_append] at hown5; have HA5 := Lib.hid (((Below.refl w3.heap.size w3.drew).alloc (Nat.le_refl _) (.cells #[] 5)).grown hg5.grown (by simp) (by simp [Value.ownBlock])); have HO5 := Lib.hid hown5; have hy5 := HA5.out.size; clear hown5 hg5)
            | (revert HO5; intro HO5; refine step_append_any (f := b8) b8_one (by rfl) (.tmp 66) (.tmp 70) 23 (by rfl) w3.heap.size 5 i0 (.int .u8 0) 1 Try.underlying23 hi hz0 hz1 hz2' rfl v5 (flatM E).length ((flatM E).map b8) (by rfl) HO5.out (some ⟨w1.heap.size, 0, none⟩) (p + 1) 6 (by rfl) ((HT1.out.drawn 1).below HA5.out (Nat.le_refl _)) (by unfold maxLen; omega) (by omega) (by simpa using hy5) ?_; intro v6 w6 hown6 hg6; rw [← List.map_append] at hown6; have HA6 := Lib.hid (Grew.below HA5.out hg6 (by simpa using hy5) (fun k hk => (HO5.out.lt k hk).1)); have HO6 := Lib.hid hown6; have hy6 := HA6.out.size; clear hown6 hg6)
            | (revert HO6; intro HO6; (refine step_append_any (f := b8) b8_one (by rfl) (.tmp 71) (.tmp 76) 23 (by rfl) w3.heap.size 5 i0 (.int .u8 0) 1 Try.underlying23 hi hz0 hz1 hz2' rfl v6 ((flatM E).length + (p + 1)) ((flatM E ++ (headL p cc).take (p + 1)).map b8) (by rfl) HO6.out am mm cm (by rfl) ((HT2.out.drawn 1).below HA6.out (by omega)) (by unfold maxLen; omega) (by omega) (by simpa using hy6) ?_; intro v7 w7 hown7 hg7; rw [← List.map_append] at hown7; have HA7 := Lib.hid (Grew.below HA6.out hg7 (by simpa using hy6) (fun k hk => (HO6.out.lt k hk).1)); obtain ⟨a7, c7, rfl, hs7⟩ := Sl.of_own hown7; have HS7 := Lib.hid hs7; clear hown7 hg7 hs7))
            | (revert HS7; intro HS7; go_at_call 14; (with_reducible refine (Cut_at (l := E.map Fm.x) (s := (headL p cc).take (p + 1) ++ m.take mm) (k := ((flatM E).length : Int)) (e := 10) HS7.out (by have := HTB.out; omega) HCS.out HKK.out HEE.out).mono ?_); rintro en w8 ⟨a8, c8, fs8, rfl, hfs8, hF8, hb8⟩; have HB8 := Lib.hid hb8; have HF8 := Lib.hid hF8; have HFS8 := Lib.hid hfs8; clear hb8 hF8 hfs8))
        all_goals
          have hsz73 := HA7.out.size
          have HW8 := Lib.hid (HW3.out.trans (((below_ahead (k := 1) HA7.out).mono HW3.out.size).trans (HB8.out.mono (by have h := HW3.out.size; simp at hsz73; omega))))
          have HF9 := Lib.hid ((HFR3.out.below ((below_ahead (k := 1) HA7.out).mono hz13) (Nat.le_refl _)).below HB8.out (by simp at hsz73; omega))
          have HSY := Lib.hid (same_yes _ _ _ _ _ _ _ _ _ _ w8 HF8.out HF9.out HFS8.out)
          rw [List.length_map] at HSY
          clear HSU3 HM3 HFR3 HTL HT1 HT2 HTB HA5 HO5 HA6 HO6 HA7 HS7 HB8 hwr q1 q2 q3 HCS HKK HEE HF8 HF9 HFS8
          (try go_wp2_with fail)
          refine HSY.out.mono ?_
          rintro en w9 ⟨rfl, q9, rfl⟩
          have HAW := Lib.hid (awake_any (w8.drewN q9))
          go_wp2_with fail
          refine HAW.out.mono ?_
          rintro en w10 ⟨rfl, hb10⟩
          have HW9 := Lib.hid (HW8.out.trans ((below_ahead hb10).mono HW8.out.size))
          clear hb10
          go_wp2_with fail
          go_ret
          exact ⟨ret_bool rfl, HW9.out⟩
      · have HMAY : Hid (mayB p cc = false) := Lib.hid (by simp [mayB]; omega)
        have t1 : decide ((p : Int) < 5) = false := by simp; omega
        have t3 : ((p : Int) == 5) = true := by simp; omega
        have t4 : decide ((2 : Int) ≤ (cc : Int)) = false := by simp; omega
        clear h1 h2
        go_upto_region 12 with (fail)
        have HSU3 := Lib.hid (HSU.out.below HB6.out (Nat.le_refl _))
        have HM3 := Lib.hid ((HM.out.below HW1.out (Nat.le_refl _)).below HB6.out HW1.out.size)
        have HFR3 := Lib.hid (HFR.out.below HB6.out (Nat.le_refl _))
        have HW3 := Lib.hid (HW1.out.trans (HB6.out.mono HW1.out.size))
        have hz13 := HB6.out.size
        have hzw := HW1.out.size
        clear HSU HM HFR HW1 HB6 HS6 hv0 hz0' HL
        generalize w2.setCell ⟨w1.heap.size, p, none⟩ (.int .u8 (cc : Int)) = w3 at *
        obtain ⟨mm, hmm⟩ : ∃ mm : Nat, mm = min nm 3 := ⟨_, rfl⟩
        have hmmn : mm ≤ nm := by omega
        have hmm3 : mm ≤ 3 := by omega
        have j3 : (0 : Int) ≤ (mm : Int) := by omega
        have j4 : (mm : Int) ≤ (cm : Int) := by omega
        have j6 : (if (3 : Int) < (nm : Int) then (3 : Int) else (nm : Int)) = (mm : Int) := by split <;> omega
        clear hmm
        have hnb := headL_not ha2 ha5 hcc HMAY.out (m.take mm)
        have HCS := Lib.hid (show Cuts (flatM E ++ (headL p cc).take (p + 1) ++ m.take mm) (E.map Fm.x) ((headL p cc).take (p + 1) ++ m.take mm) by rw [List.append_assoc]; exact cuts_stop (fun x hx => by obtain ⟨e, he, rfl⟩ := List.mem_map.1 hx; exact HE.out e he) hnb)
        have HKK := Lib.hid (show (((flatM E ++ (headL p cc).take (p + 1) ++ m.take mm).length : Nat) : Int) - (((headL p cc).take (p + 1) ++ m.take mm).length : Int) = ((flatM E).length : Int) by rw [List.append_assoc, List.length_append]; omega)
        have HEE := Lib.hid (show (if begunB ((headL p cc).take (p + 1) ++ m.take mm) = true then (0 : Int) else 10) = 10 by rw [hnb]; rfl)
        clear hnb
        have HT1 := Lib.hid (HTL.out.take_ (k := p + 1) (by omega))
        have HT2 := Lib.hid (HM3.out.take_ (k := mm) (by omega))
        have hp6 : p + 1 ≤ 6 := by omega
        have HTB := Lib.hid (show ((flatM E ++ (headL p cc).take (p + 1)) ++ m.take mm).length = (flatM E).length + (p + 1) + mm by rw [List.length_append, List.length_append, HT1.out.len, HT2.out.len])
        have q1 : (0 : Int) ≤ (p : Int) + 1 := by omega
        have q2 : (p : Int) + 1 ≤ 6 := by omega
        have q3 : ((p : Int) + 1).toNat = p + 1 := by omega
        have hwr : IntKind.i64.wrap ((p : Int) + 1) = (p : Int) + 1 := IntWalk.i64_in _ (by omega)
        go_region_held3 (fun _ => True)
          (first
            | trivial
            | go_keep)
          (first
            | (refine step_append_any (f := b8) b8_one (by rfl) (.tmp 64) (.tmp 65) 23 (by rfl) w3.heap.size 5 i0 (.int .u8 0) 1 Try.underlying23 hi hz0 hz1 hz2' rfl (.slice (some ⟨w3.heap.size, 0, none⟩) 0 0) 0 [] (by rfl) (World.ownsRow_made w3.drew #[] 0 (Nat.le_refl _) (by unfold maxLen; omega) rfl) au (flatM E).length cu (by rfl) (HSU3.out.alloc (w1 := w3.drew) hz13 _) (by unfold maxLen; omega) (by omega) (by simp) ?_; intro v5 w5 hown5 hg5; simp only [Nat.zero_add, List.nil_append] at hown5; have HA5 := Lib.hid (((Below.refl w3.heap.size w3.drew).alloc (Nat.le_refl _) (.cells #[] 5)).grown hg5.grown (by simp) (by simp [Value.ownBlock])); have HO5 := Lib.hid hown5; have hy5 := HA5.out.size; clear hown5 hg5)
            | (revert HO5; intro HO5; refine step_append_any (f := b8) b8_one (by rfl) (.tmp 66) (.tmp 70) 23 (by rfl) w3.heap.size 5 i0 (.int .u8 0) 1 Try.underlying23 hi hz0 hz1 hz2' rfl v5 (flatM E).length ((flatM E).map b8) (by rfl) HO5.out (some ⟨w1.heap.size, 0, none⟩) (p + 1) 6 (by rfl) ((HT1.out.drawn 1).below HA5.out (Nat.le_refl _)) (by unfold maxLen; omega) (by omega) (by simpa using hy5) ?_; intro v6 w6 hown6 hg6; rw [← List.map_append] at hown6; have HA6 := Lib.hid (Grew.below HA5.out hg6 (by simpa using hy5) (fun k hk => (HO5.out.lt k hk).1)); have HO6 := Lib.hid hown6; have hy6 := HA6.out.size; clear hown6 hg6)
            | (revert HO6; intro HO6; (refine step_append_any (f := b8) b8_one (by rfl) (.tmp 71) (.tmp 76) 23 (by rfl) w3.heap.size 5 i0 (.int .u8 0) 1 Try.underlying23 hi hz0 hz1 hz2' rfl v6 ((flatM E).length + (p + 1)) ((flatM E ++ (headL p cc).take (p + 1)).map b8) (by rfl) HO6.out am mm cm (by rfl) ((HT2.out.drawn 1).below HA6.out (by omega)) (by unfold maxLen; omega) (by omega) (by simpa using hy6) ?_; intro v7 w7 hown7 hg7; rw [← List.map_append] at hown7; have HA7 := Lib.hid (Grew.below HA6.out hg7 (by simpa using hy6) (fun k hk => (HO6.out.lt k hk).1)); obtain ⟨a7, c7, rfl, hs7⟩ := Sl.of_own hown7; have HS7 := Lib.hid hs7; clear hown7 hg7 hs7))
            | (revert HS7; intro HS7; go_at_call 14; (with_reducible refine (Cut_at (l := E.map Fm.x) (s := (headL p cc).take (p + 1) ++ m.take mm) (k := ((flatM E).length : Int)) (e := 10) HS7.out (by have := HTB.out; omega) HCS.out HKK.out HEE.out).mono ?_); rintro en w8 ⟨a8, c8, fs8, rfl, hfs8, hF8, hb8⟩; have HB8 := Lib.hid hb8; have HF8 := Lib.hid hF8; have HFS8 := Lib.hid hfs8; clear hb8 hF8 hfs8))
        all_goals
          have hsz73 := HA7.out.size
          have HW8 := Lib.hid (HW3.out.trans (((below_ahead (k := 1) HA7.out).mono HW3.out.size).trans (HB8.out.mono (by have h := HW3.out.size; simp at hsz73; omega))))
          have HF9 := Lib.hid ((HFR3.out.below ((below_ahead (k := 1) HA7.out).mono hz13) (Nat.le_refl _)).below HB8.out (by simp at hsz73; omega))
          have HSY := Lib.hid (same_yes _ _ _ _ _ _ _ _ _ _ w8 HF8.out HF9.out HFS8.out)
          rw [List.length_map] at HSY
          clear HSU3 HM3 HFR3 HTL HT1 HT2 HTB HA5 HO5 HA6 HO6 HA7 HS7 HB8 hwr q1 q2 q3 HCS HKK HEE HF8 HF9 HFS8
          (try go_wp2_with fail)
          refine HSY.out.mono ?_
          rintro en w9 ⟨rfl, q9, rfl⟩
          have HAW := Lib.hid (awake_any (w8.drewN q9))
          go_wp2_with fail
          refine HAW.out.mono ?_
          rintro en w10 ⟨rfl, hb10⟩
          have HW9 := Lib.hid (HW8.out.trans ((below_ahead hb10).mono HW8.out.size))
          clear hb10
          go_wp2_with fail
          go_ret
          exact ⟨ret_bool rfl, HW9.out⟩
      · have HMAY : Hid (mayB p cc = false) := Lib.hid (by simp [mayB]; omega)
        have t1 : decide ((p : Int) < 5) = false := by simp; omega
        have t3 : ((p : Int) == 5) = true := by simp; omega
        have t4 : decide ((2 : Int) ≤ (cc : Int)) = true := by simp; omega
        have t5 : decide ((cc : Int) ≤ 254) = false := by simp; omega
        clear h1 h2
        go_upto_region 12 with (fail)
        have HSU3 := Lib.hid (HSU.out.below HB6.out (Nat.le_refl _))
        have HM3 := Lib.hid ((HM.out.below HW1.out (Nat.le_refl _)).below HB6.out HW1.out.size)
        have HFR3 := Lib.hid (HFR.out.below HB6.out (Nat.le_refl _))
        have HW3 := Lib.hid (HW1.out.trans (HB6.out.mono HW1.out.size))
        have hz13 := HB6.out.size
        have hzw := HW1.out.size
        clear HSU HM HFR HW1 HB6 HS6 hv0 hz0' HL
        generalize w2.setCell ⟨w1.heap.size, p, none⟩ (.int .u8 (cc : Int)) = w3 at *
        obtain ⟨mm, hmm⟩ : ∃ mm : Nat, mm = min nm 3 := ⟨_, rfl⟩
        have hmmn : mm ≤ nm := by omega
        have hmm3 : mm ≤ 3 := by omega
        have j3 : (0 : Int) ≤ (mm : Int) := by omega
        have j4 : (mm : Int) ≤ (cm : Int) := by omega
        have j6 : (if (3 : Int) < (nm : Int) then (3 : Int) else (nm : Int)) = (mm : Int) := by split <;> omega
        clear hmm
        have hnb := headL_not ha2 ha5 hcc HMAY.out (m.take mm)
        have HCS := Lib.hid (show Cuts (flatM E ++ (headL p cc).take (p + 1) ++ m.take mm) (E.map Fm.x) ((headL p cc).take (p + 1) ++ m.take mm) by rw [List.append_assoc]; exact cuts_stop (fun x hx => by obtain ⟨e, he, rfl⟩ := List.mem_map.1 hx; exact HE.out e he) hnb)
        have HKK := Lib.hid (show (((flatM E ++ (headL p cc).take (p + 1) ++ m.take mm).length : Nat) : Int) - (((headL p cc).take (p + 1) ++ m.take mm).length : Int) = ((flatM E).length : Int) by rw [List.append_assoc, List.length_append]; omega)
        have HEE := Lib.hid (show (if begunB ((headL p cc).take (p + 1) ++ m.take mm) = true then (0 : Int) else 10) = 10 by rw [hnb]; rfl)
        clear hnb
        have HT1 := Lib.hid (HTL.out.take_ (k := p + 1) (by omega))
        have HT2 := Lib.hid (HM3.out.take_ (k := mm) (by omega))
        have hp6 : p + 1 ≤ 6 := by omega
        have HTB := Lib.hid (show ((flatM E ++ (headL p cc).take (p + 1)) ++ m.take mm).length = (flatM E).length + (p + 1) + mm by rw [List.length_append, List.length_append, HT1.out.len, HT2.out.len])
        have q1 : (0 : Int) ≤ (p : Int) + 1 := by omega
        have q2 : (p : Int) + 1 ≤ 6 := by omega
        have q3 : ((p : Int) + 1).toNat = p + 1 := by omega
        have hwr : IntKind.i64.wrap ((p : Int) + 1) = (p : Int) + 1 := IntWalk.i64_in _ (by omega)
        go_region_held3 (fun _ => True)
          (first
            | trivial
            | go_keep)
          (first
            | (refine step_append_any (f := b8) b8_one (by rfl) (.tmp 64) (.tmp 65) 23 (by rfl) w3.heap.size 5 i0 (.int .u8 0) 1 Try.underlying23 hi hz0 hz1 hz2' rfl (.slice (some ⟨w3.heap.size, 0, none⟩) 0 0) 0 [] (by rfl) (World.ownsRow_made w3.drew #[] 0 (Nat.le_refl _) (by unfold maxLen; omega) rfl) au (flatM E).length cu (by rfl) (HSU3.out.alloc (w1 := w3.drew) hz13 _) (by unfold maxLen; omega) (by omega) (by simp) ?_; intro v5 w5 hown5 hg5; simp only [Nat.zero_add, List.nil_append] at hown5; have HA5 := Lib.hid (((Below.refl w3.heap.size w3.drew).alloc (Nat.le_refl _) (.cells #[] 5)).grown hg5.grown (by simp) (by simp [Value.ownBlock])); have HO5 := Lib.hid hown5; have hy5 := HA5.out.size; clear hown5 hg5)
            | (revert HO5; intro HO5; refine step_append_any (f := b8) b8_one (by rfl) (.tmp 66) (.tmp 70) 23 (by rfl) w3.heap.size 5 i0 (.int .u8 0) 1 Try.underlying23 hi hz0 hz1 hz2' rfl v5 (flatM E).length ((flatM E).map b8) (by rfl) HO5.out (some ⟨w1.heap.size, 0, none⟩) (p + 1) 6 (by rfl) ((HT1.out.drawn 1).below HA5.out (Nat.le_refl _)) (by unfold maxLen; omega) (by omega) (by simpa using hy5) ?_; intro v6 w6 hown6 hg6; rw [← List.map_append] at hown6; have HA6 := Lib.hid (Grew.below HA5.out hg6 (by simpa using hy5) (fun k hk => (HO5.out.lt k hk).1)); have HO6 := Lib.hid hown6; have hy6 := HA6.out.size; clear hown6 hg6)
            | (revert HO6; intro HO6; (refine step_append_any (f := b8) b8_one (by rfl) (.tmp 71) (.tmp 76) 23 (by rfl) w3.heap.size 5 i0 (.int .u8 0) 1 Try.underlying23 hi hz0 hz1 hz2' rfl v6 ((flatM E).length + (p + 1)) ((flatM E ++ (headL p cc).take (p + 1)).map b8) (by rfl) HO6.out am mm cm (by rfl) ((HT2.out.drawn 1).below HA6.out (by omega)) (by unfold maxLen; omega) (by omega) (by simpa using hy6) ?_; intro v7 w7 hown7 hg7; rw [← List.map_append] at hown7; have HA7 := Lib.hid (Grew.below HA6.out hg7 (by simpa using hy6) (fun k hk => (HO6.out.lt k hk).1)); obtain ⟨a7, c7, rfl, hs7⟩ := Sl.of_own hown7; have HS7 := Lib.hid hs7; clear hown7 hg7 hs7))
            | (revert HS7; intro HS7; go_at_call 14; (with_reducible refine (Cut_at (l := E.map Fm.x) (s := (headL p cc).take (p + 1) ++ m.take mm) (k := ((flatM E).length : Int)) (e := 10) HS7.out (by have := HTB.out; omega) HCS.out HKK.out HEE.out).mono ?_); rintro en w8 ⟨a8, c8, fs8, rfl, hfs8, hF8, hb8⟩; have HB8 := Lib.hid hb8; have HF8 := Lib.hid hF8; have HFS8 := Lib.hid hfs8; clear hb8 hF8 hfs8))
        all_goals
          have hsz73 := HA7.out.size
          have HW8 := Lib.hid (HW3.out.trans (((below_ahead (k := 1) HA7.out).mono HW3.out.size).trans (HB8.out.mono (by have h := HW3.out.size; simp at hsz73; omega))))
          have HF9 := Lib.hid ((HFR3.out.below ((below_ahead (k := 1) HA7.out).mono hz13) (Nat.le_refl _)).below HB8.out (by simp at hsz73; omega))
          have HSY := Lib.hid (same_yes _ _ _ _ _ _ _ _ _ _ w8 HF8.out HF9.out HFS8.out)
          rw [List.length_map] at HSY
          clear HSU3 HM3 HFR3 HTL HT1 HT2 HTB HA5 HO5 HA6 HO6 HA7 HS7 HB8 hwr q1 q2 q3 HCS HKK HEE HF8 HF9 HFS8
          (try go_wp2_with fail)
          refine HSY.out.mono ?_
          rintro en w9 ⟨rfl, q9, rfl⟩
          have HAW := Lib.hid (awake_any (w8.drewN q9))
          go_wp2_with fail
          refine HAW.out.mono ?_
          rintro en w10 ⟨rfl, hb10⟩
          have HW9 := Lib.hid (HW8.out.trans ((below_ahead hb10).mono HW8.out.size))
          clear hb10
          go_wp2_with fail
          go_ret
          exact ⟨ret_bool rfl, HW9.out⟩
      · have HMAY : Hid (mayB p cc = true) := Lib.hid (by simp [mayB]; omega)
        have t1 : decide ((p : Int) < 5) = false := by simp; omega
        have t3 : ((p : Int) == 5) = true := by simp; omega
        have t4 : decide ((2 : Int) ≤ (cc : Int)) = true := by simp; omega
        have t5 : decide ((cc : Int) ≤ 254) = true := by simp; omega
        clear h3
        clear h1 h2
        go_upto_region 12 with (fail)
        have HSU3 := Lib.hid (HSU.out.below HB6.out (Nat.le_refl _))
        have HM3 := Lib.hid ((HM.out.below HW1.out (Nat.le_refl _)).below HB6.out HW1.out.size)
        have HFR3 := Lib.hid (HFR.out.below HB6.out (Nat.le_refl _))
        have HW3 := Lib.hid (HW1.out.trans (HB6.out.mono HW1.out.size))
        have hz13 := HB6.out.size
        have hzw := HW1.out.size
        clear HSU HM HFR HW1 HB6 HS6 hv0 hz0' HL
        generalize w2.setCell ⟨w1.heap.size, p, none⟩ (.int .u8 (cc : Int)) = w3 at *
        obtain ⟨mm, hmm⟩ : ∃ mm : Nat, mm = min nm 3 := ⟨_, rfl⟩
        have hmmn : mm ≤ nm := by omega
        have hmm3 : mm ≤ 3 := by omega
        have j3 : (0 : Int) ≤ (mm : Int) := by omega
        have j4 : (mm : Int) ≤ (cm : Int) := by omega
        have j6 : (if (3 : Int) < (nm : Int) then (3 : Int) else (nm : Int)) = (mm : Int) := by split <;> omega
        clear hmm
        have HER := Lib.hid (show ∀ x ∈ E.map Fm.x, Right x from fun x hx => by obtain ⟨e, he, rfl⟩ := List.mem_map.1 hx; exact HE.out e he)
        have HTX := Lib.hid (show flatM E ++ (headL p cc).take (p + 1) ++ m.take mm = flat (E.map Fm.x) ++ ((headL p cc).take (p + 1) ++ m.take mm) from List.append_assoc _ _ _)
        have HT1 := Lib.hid (HTL.out.take_ (k := p + 1) (by omega))
        have HT2 := Lib.hid (HM3.out.take_ (k := mm) (by omega))
        have hp6 : p + 1 ≤ 6 := by omega
        have HTB := Lib.hid (show ((flatM E ++ (headL p cc).take (p + 1)) ++ m.take mm).length = (flatM E).length + (p + 1) + mm by rw [List.length_append, List.length_append, HT1.out.len, HT2.out.len])
        have q1 : (0 : Int) ≤ (p : Int) + 1 := by omega
        have q2 : (p : Int) + 1 ≤ 6 := by omega
        have q3 : ((p : Int) + 1).toNat = p + 1 := by omega
        have hwr : IntKind.i64.wrap ((p : Int) + 1) = (p : Int) + 1 := IntWalk.i64_in _ (by omega)
        go_region_held3 (fun _ => True)
          (first
            | trivial
            | go_keep)
          (first
            | (refine step_append_any (f := b8) b8_one (by rfl) (.tmp 64) (.tmp 65) 23 (by rfl) w3.heap.size 5 i0 (.int .u8 0) 1 Try.underlying23 hi hz0 hz1 hz2' rfl (.slice (some ⟨w3.heap.size, 0, none⟩) 0 0) 0 [] (by rfl) (World.ownsRow_made w3.drew #[] 0 (Nat.le_refl _) (by unfold maxLen; omega) rfl) au (flatM E).length cu (by rfl) (HSU3.out.alloc (w1 := w3.drew) hz13 _) (by unfold maxLen; omega) (by omega) (by simp) ?_; intro v5 w5 hown5 hg5; simp only [Nat.zero_add, List.nil_append] at hown5; have HA5 := Lib.hid (((Below.refl w3.heap.size w3.drew).alloc (Nat.le_refl _) (.cells #[] 5)).grown hg5.grown (by simp) (by simp [Value.ownBlock])); have HO5 := Lib.hid hown5; have hy5 := HA5.out.size; clear hown5 hg5)
            | (revert HO5; intro HO5; refine step_append_any (f := b8) b8_one (by rfl) (.tmp 66) (.tmp 70) 23 (by rfl) w3.heap.size 5 i0 (.int .u8 0) 1 Try.underlying23 hi hz0 hz1 hz2' rfl v5 (flatM E).length ((flatM E).map b8) (by rfl) HO5.out (some ⟨w1.heap.size, 0, none⟩) (p + 1) 6 (by rfl) ((HT1.out.drawn 1).below HA5.out (Nat.le_refl _)) (by unfold maxLen; omega) (by omega) (by simpa using hy5) ?_; intro v6 w6 hown6 hg6; rw [← List.map_append] at hown6; have HA6 := Lib.hid (Grew.below HA5.out hg6 (by simpa using hy5) (fun k hk => (HO5.out.lt k hk).1)); have HO6 := Lib.hid hown6; have hy6 := HA6.out.size; clear hown6 hg6)
            | (revert HO6; intro HO6; (refine step_append_any (f := b8) b8_one (by rfl) (.tmp 71) (.tmp 76) 23 (by rfl) w3.heap.size 5 i0 (.int .u8 0) 1 Try.underlying23 hi hz0 hz1 hz2' rfl v6 ((flatM E).length + (p + 1)) ((flatM E ++ (headL p cc).take (p + 1)).map b8) (by rfl) HO6.out am mm cm (by rfl) ((HT2.out.drawn 1).below HA6.out (by omega)) (by unfold maxLen; omega) (by omega) (by simpa using hy6) ?_; intro v7 w7 hown7 hg7; rw [← List.map_append] at hown7; have HA7 := Lib.hid (Grew.below HA6.out hg7 (by simpa using hy6) (fun k hk => (HO6.out.lt k hk).1)); obtain ⟨a7, c7, rfl, hs7⟩ := Sl.of_own hown7; have HS7 := Lib.hid hs7; clear hown7 hg7 hs7))
            | (revert HS7; intro HS7; go_at_call 14; (with_reducible refine (Cut_may (l := E.map Fm.x) (t := (headL p cc).take (p + 1) ++ m.take mm) HS7.out (by have := HTB.out; omega) HER.out HTX.out).mono ?_); rintro en w8 ⟨a8, g8, c8, k8, e8, rfl, hg8, hg8', hk8, hk8', hb8⟩; have HB8 := Lib.hid hb8; have s1 : decide (((flatM E).length : Int) ≤ k8) = true := decide_eq_true hk8; have s2 : decide (E.length ≤ g8) = true := decide_eq_true (by rw [List.length_map] at hg8; exact hg8); clear hb8 hg8 hk8))
        all_goals
          have HW8 := Lib.hid (HW3.out.trans (((below_ahead (k := 1) HA7.out).mono HW3.out.size).trans (HB8.out.mono (by have := HA7.out.size; have h := HW3.out.size; simp at this; omega))))
          have HAW := Lib.hid (awake_any w8)
          clear HSU3 HM3 HFR3 HTL HT1 HT2 HTB HA5 HO5 HA6 HO6 HA7 HS7 HB8 hwr q1 q2 q3
          (try go_wp2_with fail)
          refine HAW.out.mono ?_
          rintro en w9 ⟨rfl, hb9⟩
          have HW9 := Lib.hid (HW8.out.trans (hb9.mono HW8.out.size))
          clear hb9
          go_wp2_with fail
          go_ret
          exact ⟨ret_bool rfl, HW9.out⟩
end Go.Proofs.Yteekdginloljjaa.MbW
