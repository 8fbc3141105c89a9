/- The law AskLooks, walked. -/
import Derived.Test.YtpjimlajaplhfaaAskLawOne
import Derived.Test.YtpjimlajaplhfaaQuiet
open Go.RowKit
namespace Go.Proofs.Ytpjimlajaplhfaa.AskW
open AskM Mem

theorem enters_same (args : Array Value) (w : World) : (callFunc 15 args).run Try.prog w = .ok (.enter 15 args) w := by
  have h := Try.func15
  unfold callFunc
  rw [Sem.run_bind]
  simp only [run_program, Result.andThen_ok, h]
  have e1 : (Try.f15.name == "runtime.NumGoroutine") = false := by kernel_rfl
  have e2 : Try.f15.body.isNone = false := by kernel_rfl
  rw [e1, e2]
  rfl
theorem look_cons {f : UInt8} {l : List UInt8} : lookN (f :: l) = if known f.toNat = false then (bare f, 1) else match parseN (f :: l) with | some a => (a, 0) | none => (bare f, 3) := by
  unfold lookN
  rw [if_neg (by simp)]
  rfl
/-- What is wrong, by the first byte alone: a function or none. -/
theorem look_code {f : UInt8} {l : List UInt8} : ((lookN (f :: l)).2 = 1 ↔ known f.toNat = false) ∧ (lookN (f :: l)).2 < 256 := by
  rw [look_cons]
  cases h : known f.toNat
  · simp
  · cases parseN (f :: l) <;> simp
theorem look_first {x0 : UInt8} {r : List UInt8} {q : Req} (h : parseN (x0 :: r) = some q) : q.fn = x0 ∧ lookN (x0 :: r) = (q, 0) := by
  have hk := parse_known h
  have hb := (bytes_facts (parse_iff.1 h)).2.2.2
  simp only [List.getD, List.getElem?_cons_zero, Option.getD_some] at hk hb
  refine ⟨hb.symm, ?_⟩
  rw [look_cons, h]
  simp [hk]
theorem look_none {x0 : UInt8} {r : List UInt8} (h : parseN (x0 :: r) = none) : lookN (x0 :: r) = (bare x0, 1) ∨ lookN (x0 :: r) = (bare x0, 3) := by
  rw [look_cons, h]
  cases known x0.toNat
  · exact .inl rfl
  · exact .inr rfl
theorem b8_one : ∀ x : UInt8, (b8 x).oneCell' = true := fun _ => rfl
/-- How many functions there are below a number. -/
def cntK (k : Nat) : Nat := ((List.range k).filter known).length
theorem cntK_le (k : Nat) : cntK k ≤ k := by have := List.length_filter_le known (List.range k); simpa [cntK] using this
theorem cntK_on {k : Nat} (h : known k = true) : cntK (k + 1) = cntK k + 1 := by simp [cntK, List.range_succ, List.filter_append, h]
theorem cntK_off {k : Nat} (h : known k = false) : cntK (k + 1) = cntK k := by simp [cntK, List.range_succ, List.filter_append, h]
theorem cntK_all : cntK 256 = 9 := by decide +kernel
theorem own_swap {w : World} {base : Nat} {e : TypeId} {v : Value} {n : Nat} {x : UInt8} {r : List UInt8} (h : w.ownsRow base e 1 v n ((x :: r).map b8)) :
    ∃ g cap cur, v = .slice (some ⟨g, 0, none⟩) n cap ∧ base ≤ g ∧ g < w.heap.size ∧ w.heap[g]? = some (.cells cur e (0, 0)) ∧ cur[0]? = some (b8 x) ∧ 0 < n ∧
      ∀ (y : UInt8) (z : Int), z = (y.toNat : Int) → Sl b8 (w.setCell ⟨g, 0, none⟩ (.int .u8 z)) w.heap.size (some ⟨g, 0, none⟩) n cap (y :: r) := by
  have hl : r.length + 1 = n := by have := h.1; simpa using this
  rcases h.2 with ⟨rfl, rfl⟩ | ⟨g, cap, cur, rfl, hb, hh, hn, hm, hs, ht⟩
  · omega
  · have hlt := (Array.getElem?_eq_some_iff.1 hh).1
    have hcur : ∀ i : Nat, i < n → cur[i]? = ((x :: r).map b8)[i]? := fun i hi => by
      rw [← ht, List.getElem?_take_of_lt (by omega)]; simp
    refine ⟨g, cap, cur, rfl, hb, hlt, hh, (hcur 0 (by omega)).trans (by simp), by omega, fun y z hz => ?_⟩
    subst hz
    refine ⟨by simpa using hl, hn, hm, (fun h => by cases h), fun _ => ⟨g, 0, rfl, hlt, fun i u hu => ?_⟩⟩
    have h1 := heap_setCell_same _ _ 0 _ _ (b8 y) hh
    rw [Nat.zero_add, cell_of_row _ _ i _ _ _ h1]
    rcases i with _ | i
    · simp only [List.getElem?_cons_zero, Option.some.injEq] at hu
      subst hu
      rw [Array.getElem?_setIfInBounds_self_of_lt (by omega)]
    · have hi := (List.getElem?_eq_some_iff.1 hu).1
      simp only [List.length_cons] at hi
      have := hcur (i + 1) (by omega)
      rw [List.getElem?_cons_succ] at hu
      simp only [List.map_cons, List.getElem?_cons_succ, List.getElem?_map, hu, Option.map_some] at this
      rw [← this]
      simp

set_option maxRecDepth 100000 in
set_option maxHeartbeats 40000000 in
theorem AskLooks_walk (b : Option Addr) (n c : Nat) (l : List UInt8) (w : World) (hS : Sl b8 w w.heap.size b n c l) :
    Calls Try.prog 6 #[.slice b n c] w (Says (.bool true) w) := by
  have hn := len_le hS
  by_cases h0 : n = 0
  · subst h0
    clear hS
    go_enter Try.func6, Try.ntmps6
    go_wp2_with fail
    refine (awake_any _).mono ?_
    rintro e w1 ⟨rfl, hb⟩
    go_wp2_with fail
    go_ret
    exact Says.mk hb
  have h0' : ((n : Int) == 0) = false := by simp; omega
  by_cases h1 : 300 < n
  · have h1' : decide (300 < (n : Int)) = true := by simp; omega
    clear hS
    go_enter Try.func6, Try.ntmps6
    go_wp2_with fail
    refine (awake_any _).mono ?_
    rintro e w1 ⟨rfl, hb⟩
    go_wp2_with fail
    go_ret
    exact Says.mk hb
  have h1' : decide (300 < (n : Int)) = false := by simp; omega
  have hn0 : 0 < n := by omega
  obtain ⟨b, off, x0, rfl, hbk, hx, hcell⟩ := hS.at_ hn0
  rw [Nat.add_zero] at hcell
  obtain ⟨r, rfl⟩ : ∃ r, l = x0 :: r := by
    rcases l with _ | ⟨y, r⟩
    · cases hx
    · injection hx with hx; subst hx; exact ⟨r, rfl⟩
  clear hx
  have HS := Lib.hid hS
  have HC := Lib.hid (fun f l => @look_code f l)
  have HLF := Lib.hid (fun q h => @look_first x0 r q h)
  have HLN := Lib.hid (@look_none x0 r)
  clear hS
  go_enter Try.func6, Try.ntmps6
  go_wp2_with fail
  refine (Look_any _ _ _ _ _ HS.out).mono ?_
  rintro e w1 ⟨aw, cw, ab, cb, rfl, hA, hb1, -⟩
  have HB1 := Lib.hid hb1
  have HA := Lib.hid hA
  clear hb1 hA
  generalize hlk : lookN (x0 :: r) = lk at *
  obtain ⟨⟨f1, a1, m1, t1, ws, bs⟩, kx⟩ := lk
  have HLK := Lib.hid hlk
  clear hlk
  have hb1' := fun o : Obj => HB1.out.alloc HB1.out.size o
  have HB1' := Lib.hid hb1'
  clear hb1'
  go_wp2_with fail
  refine (Parse_any _ _ _ _ _ ((HS.out.below (HB1'.out _) (Nat.le_refl _)).more (HB1'.out _).size)).mono ?_
  rintro e w2 ⟨pw, dw, pb, db, rfl, hP, hb2, -⟩
  have HB2 := Lib.hid ((HB1'.out _).trans (hb2.mono (HB1'.out _).size))
  have hz2 : w1.heap.size < w2.heap.size := by have := hb2.size; simp at this; omega
  have H3' := Lib.hid (hb2.block w1.heap.size (by simp) |>.trans (heap_alloc_new w1 _))
  have HP := Lib.hid hP
  have HAA := Lib.hid ((HA.out.below ((Below.refl w1.heap.size w1).alloc (Nat.le_refl _) (.cells #[.int .u8 (f1.toNat : Int), .int .u16 (a1.toNat : Int), .int .u16 (m1.toNat : Int), .int .u16 (t1.toNat : Int), .slice aw ws.length cw, .slice ab bs.length cb] 26))).below hb2)
  clear hb2 hP HB1' HA
  generalize hpo : parseN (x0 :: r) = po at *
  have HPO := Lib.hid hpo
  clear hpo
  obtain ⟨i0, hi, hz0, hz1, hz2'⟩ := info_parts info8
  rcases po with _ | q
  rotate_left
  · obtain ⟨hq, hl⟩ := HLF.out q rfl
    injection hl with e1 e2
    subst e1 e2
    dsimp only at hq
    obtain rfl := hq.symm
    clear HLF HLN HPO hq
    have HP : Go.RowKit.Hid (AskAt w2 w2.heap.size ⟨x0, a1, m1, t1, ws, bs⟩ pw dw pb db) := Lib.hid HP.out
    go_wp2_with fail
    have HW0 := Lib.hid (show w2.heap.size < (w2.alloc (.cells #[.int .u8 (x0.toNat : Int), .int .u16 (a1.toNat : Int), .int .u16 (m1.toNat : Int), .int .u16 (t1.toNat : Int), .slice pw ws.length dw, .slice pb bs.length db] 26)).heap.size by simp)
    have H5 := Lib.hid (heap_alloc_new w2 (.cells #[.int .u8 (x0.toNat : Int), .int .u16 (a1.toNat : Int), .int .u16 (m1.toNat : Int), .int .u16 (t1.toNat : Int), .slice pw ws.length dw, .slice pb bs.length db] 26))
    have H3 := Lib.hid ((Below.heap_alloc w2 (.cells #[.int .u8 (x0.toNat : Int), .int .u16 (a1.toNat : Int), .int .u16 (m1.toNat : Int), .int .u16 (t1.toNat : Int), .slice pw ws.length dw, .slice pb bs.length db] 26) _ hz2).trans H3'.out)
    have HBW := Lib.hid (HB2.out.alloc HB2.out.size (.cells #[.int .u8 (x0.toNat : Int), .int .u16 (a1.toNat : Int), .int .u16 (m1.toNat : Int), .int .u16 (t1.toNat : Int), .slice pw ws.length dw, .slice pb bs.length db] 26))
    have hb0 := (Below.refl w2.heap.size w2).alloc (Nat.le_refl _) (.cells #[.int .u8 (x0.toNat : Int), .int .u16 (a1.toNat : Int), .int .u16 (m1.toNat : Int), .int .u16 (t1.toNat : Int), .slice pw ws.length dw, .slice pb bs.length db] 26)
    have HSM := Lib.hid (same_on (HAA.out.below hb0) (HP.out.below hb0) (x := true) (by simp))
    clear hb0 HAA HP H3'
    generalize w2.alloc (.cells #[.int .u8 (x0.toNat : Int), .int .u16 (a1.toNat : Int), .int .u16 (m1.toNat : Int), .int .u16 (t1.toNat : Int), .slice pw ws.length dw, .slice pb bs.length db] 26) = W0 at *
    have hxx : True := trivial
    have HR3 : ∀ W, Below W0.heap.size W0 W → W.heap[w1.heap.size]? = some (.cells #[.int .u8 (x0.toNat : Int), .int .u16 (a1.toNat : Int), .int .u16 (m1.toNat : Int), .int .u16 (t1.toNat : Int), .slice aw ws.length cw, .slice ab bs.length cb] 26 (0, 0)) := fun W h => (h.block _ (by have := hz2; have := HW0.out; omega)).trans H3.out
    have HR5 : ∀ W, Below W0.heap.size W0 W → W.heap[w2.heap.size]? = some (.cells #[.int .u8 (x0.toNat : Int), .int .u16 (a1.toNat : Int), .int .u16 (m1.toNat : Int), .int .u16 (t1.toNat : Int), .slice pw ws.length dw, .slice pb bs.length db] 26 (0, 0)) := fun W h => (h.block _ (by have := HW0.out; omega)).trans H5.out
    have HBc : ∀ W, Below W0.heap.size W0 W → W.cell? ⟨b, off, none⟩ = some (b8 x0) := fun W h => (HBW.out.trans (h.mono HBW.out.size)).cell (p := ⟨b, off, none⟩) hbk |>.trans hcell
    refine region_quiet (fun W => Below W0.heap.size W0 W) (by kernel_rfl) (by kernel_rfl) (Below.refl _ _).drew ?_
    intro ops Q' hops hQ
    refine QP.val (.int .u8 0) (by rfl) (fun w hC => runq_move rfl (by kernel_rfl)) ?_
    refine QP.val (.bool true) (by rfl) (fun w hC => runq_eql (k := .u8) (p := 0) (q := 0) rfl (by kernel_rfl) (by kernel_rfl) (by rfl)) ?_
    refine QP.val (.int .i64 0) (by rfl) (fun w hC => runq_move rfl (by kernel_rfl)) ?_
    refine QP.val (.bool true) (by rfl) (fun w hC => runq_eql (k := .i64) (p := 0) (q := 0) rfl (by kernel_rfl) (by kernel_rfl) (by rfl)) ?_
    refine QP.val (.bool false) (by rfl) (fun w hC => runq_neqb (p := true) (q := true) Try.underlying4 rfl (by kernel_rfl) (by kernel_rfl) rfl) ?_
    refine QP.val (.bool false) (by rfl) (fun w hC => runq_move rfl (by kernel_rfl)) ?_
    refine QP.val (.pointer (some ⟨w1.heap.size, 0, none⟩)) (wantedq (j := 5) (d := 36) (want := false) (b := false) rfl (by rw [hops.out]; rfl) (by kernel_rfl) rfl) (fun w hC => by kernel_rfl) ?_
    refine QP.val (.int .u8 (x0.toNat : Int)) (wantedq (j := 5) (d := 36) (want := false) (b := false) rfl (by rw [hops.out]; rfl) (by kernel_rfl) rfl) (fun w hC => runq_load_int (p := ⟨w1.heap.size, 0, none⟩) rfl (by kernel_rfl) (cell_of_row _ _ 0 _ _ _ (HR3 w hC)) Try.underlying5) ?_
    refine QP.val (.slice (some ⟨b, off, none⟩) n c) (wantedq (j := 5) (d := 36) (want := false) (b := false) rfl (by rw [hops.out]; rfl) (by kernel_rfl) rfl) (fun w hC => runq_move rfl (by kernel_rfl)) ?_
    refine QP.val (.pointer (some ⟨b, off, none⟩)) (wantedq (j := 5) (d := 36) (want := false) (b := false) rfl (by rw [hops.out]; rfl) (by kernel_rfl) rfl) (fun w hC => runq_indexAddr (b := b) (off := off) (n := n) (c := c) (i := 0) (k := .i64) rfl Try.underlying27 (fun _ => by kernel_rfl) (by kernel_rfl) (by kernel_rfl) hn0) ?_
    refine QP.val (.int .u8 (x0.toNat : Int)) (wantedq (j := 5) (d := 36) (want := false) (b := false) rfl (by rw [hops.out]; rfl) (by kernel_rfl) rfl) (fun w hC => runq_load_int (p := ⟨b, off, none⟩) rfl (by kernel_rfl) (HBc w hC) Try.underlying5) ?_
    refine QP.val (.bool false) (wantedq (j := 5) (d := 36) (want := false) (b := false) rfl (by rw [hops.out]; rfl) (by kernel_rfl) rfl) (fun w hC => runq_neq (k := .u8) (p := (x0.toNat : Int)) (q := (x0.toNat : Int)) rfl (by kernel_rfl) (by kernel_rfl) (by simp)) ?_
    refine QP.val (.bool false) (by rfl) (fun w hC => runq_pick (c := false) rfl (by kernel_rfl) (by kernel_rfl)) ?_
    refine QP.val (.bool false) (by rfl) (fun w hC => runq_move rfl (by kernel_rfl)) ?_
    refine QP.val (.int .u8 0) (wantedq (j := 13) (d := 44) (want := false) (b := false) rfl (by rw [hops.out]; rfl) (by kernel_rfl) rfl) (fun w hC => runq_move rfl (by kernel_rfl)) ?_
    refine QP.val (.bool true) (wantedq (j := 13) (d := 44) (want := false) (b := false) rfl (by rw [hops.out]; rfl) (by kernel_rfl) rfl) (fun w hC => runq_eql (k := .u8) (p := 0) (q := 0) rfl (by kernel_rfl) (by kernel_rfl) (by rfl)) ?_
    refine QP.val (.bool true) (wantedq (j := 13) (d := 44) (want := false) (b := false) rfl (by rw [hops.out]; rfl) (by kernel_rfl) rfl) (fun w hC => runq_move rfl (by kernel_rfl)) ?_
    refine QP.val (.agg #[.int .u8 (x0.toNat : Int), .int .u16 (a1.toNat : Int), .int .u16 (m1.toNat : Int), .int .u16 (t1.toNat : Int), .slice aw ws.length cw, .slice ab bs.length cb]) (wantedq (j := 16) (d := 47) (want := true) (b := true) rfl (by rw [hops.out]; rfl) (by kernel_rfl) rfl) (fun w hC => runq_load_row (t := 26) (g := w1.heap.size) (fr := (0, 0)) rfl (by kernel_rfl) (HR3 w hC) Try.underlying26 rfl (by kernel_rfl)) ?_
    refine QP.val (.agg #[.int .u8 (x0.toNat : Int), .int .u16 (a1.toNat : Int), .int .u16 (m1.toNat : Int), .int .u16 (t1.toNat : Int), .slice pw ws.length dw, .slice pb bs.length db]) (wantedq (j := 16) (d := 47) (want := true) (b := true) rfl (by rw [hops.out]; rfl) (by kernel_rfl) rfl) (fun w hC => runq_load_row (t := 26) (g := w2.heap.size) (fr := (0, 0)) rfl (by kernel_rfl) (HR5 w hC) Try.underlying26 rfl (by kernel_rfl)) ?_
    refine QP.call 15 #[.agg #[.int .u8 (x0.toNat : Int), .int .u16 (a1.toNat : Int), .int .u16 (m1.toNat : Int), .int .u16 (t1.toNat : Int), .slice aw ws.length cw, .slice ab bs.length cb], .agg #[.int .u8 (x0.toNat : Int), .int .u16 (a1.toNat : Int), .int .u16 (m1.toNat : Int), .int .u16 (t1.toNat : Int), .slice pw ws.length dw, .slice pb bs.length db]] (.bool true) (wantedq (j := 16) (d := 47) (want := true) (b := true) rfl (by rw [hops.out]; rfl) (by kernel_rfl) rfl) (fun w hC => (congrArg (fun s => Sem.run Try.prog s w) (by kernel_rfl)).trans (enters_same #[.agg #[.int .u8 (x0.toNat : Int), .int .u16 (a1.toNat : Int), .int .u16 (m1.toNat : Int), .int .u16 (t1.toNat : Int), .slice aw ws.length cw, .slice ab bs.length cb], .agg #[.int .u8 (x0.toNat : Int), .int .u16 (a1.toNat : Int), .int .u16 (m1.toNat : Int), .int .u16 (t1.toNat : Int), .slice pw ws.length dw, .slice pb bs.length db]] w)) (fun w hC => HSM w hC) ?_
    refine QP.val (.bool false) (wantedq (j := 16) (d := 47) (want := true) (b := true) rfl (by rw [hops.out]; rfl) (by kernel_rfl) rfl) (fun w hC => runq_not (c := true) rfl (by kernel_rfl) rfl) ?_
    refine QP.val (.bool false) (wantedq (j := 13) (d := 44) (want := false) (b := false) rfl (by rw [hops.out]; rfl) (by kernel_rfl) rfl) (fun w hC => runq_pick (c := true) rfl (by kernel_rfl) (by kernel_rfl)) ?_
    refine QP.val (.bool false) (by rfl) (fun w hC => runq_pick (c := false) rfl (by kernel_rfl) (by kernel_rfl)) ?_
    refine QP.val (.bool false) (by rfl) (fun w hC => runq_move rfl (by kernel_rfl)) ?_
    refine QP.val (.int .u8 0) (wantedq (j := 23) (d := 54) (want := false) (b := false) rfl (by rw [hops.out]; rfl) (by kernel_rfl) rfl) (fun w hC => runq_move rfl (by kernel_rfl)) ?_
    refine QP.val (.bool false) (wantedq (j := 23) (d := 54) (want := false) (b := false) rfl (by rw [hops.out]; rfl) (by kernel_rfl) rfl) (fun w hC => runq_neq (k := .u8) (p := 0) (q := 0) rfl (by kernel_rfl) (by kernel_rfl) (by rfl)) ?_
    refine QP.val (.bool false) (wantedq (j := 23) (d := 54) (want := false) (b := false) rfl (by rw [hops.out]; rfl) (by kernel_rfl) rfl) (fun w hC => runq_move rfl (by kernel_rfl)) ?_
    refine QP.skip (wantedq (j := 26) (d := 57) (want := true) (b := false) rfl (by rw [hops.out]; rfl) (by kernel_rfl) rfl) ?_
    refine QP.skip (wantedq (j := 26) (d := 57) (want := true) (b := false) rfl (by rw [hops.out]; rfl) (by kernel_rfl) rfl) ?_
    refine QP.skip (wantedq (j := 26) (d := 57) (want := true) (b := false) rfl (by rw [hops.out]; rfl) (by kernel_rfl) rfl) ?_
    refine QP.skip (wantedq (j := 26) (d := 57) (want := true) (b := false) rfl (by rw [hops.out]; rfl) (by kernel_rfl) rfl) ?_
    refine QP.skip (wantedq (j := 26) (d := 57) (want := true) (b := false) rfl (by rw [hops.out]; rfl) (by kernel_rfl) rfl) ?_
    refine QP.skip (wantedq (j := 26) (d := 57) (want := true) (b := false) rfl (by rw [hops.out]; rfl) (by kernel_rfl) rfl) ?_
    refine QP.skip (wantedq (j := 26) (d := 57) (want := true) (b := false) rfl (by rw [hops.out]; rfl) (by kernel_rfl) rfl) ?_
    refine QP.val (.bool false) (wantedq (j := 23) (d := 54) (want := false) (b := false) rfl (by rw [hops.out]; rfl) (by kernel_rfl) rfl) (fun w hC => runq_pick (c := false) rfl (by kernel_rfl) (by kernel_rfl)) ?_
    refine QP.val (.bool false) (by rfl) (fun w hC => runq_pick (c := false) rfl (by kernel_rfl) (by kernel_rfl)) ?_
    refine QP.val (.bool false) (by rfl) (fun w hC => runq_move rfl (by kernel_rfl)) ?_
    refine QP.val (.int .u8 0) (wantedq (j := 36) (d := 67) (want := false) (b := false) rfl (by rw [hops.out]; rfl) (by kernel_rfl) rfl) (fun w hC => runq_move rfl (by kernel_rfl)) ?_
    refine QP.val (.bool false) (wantedq (j := 36) (d := 67) (want := false) (b := false) rfl (by rw [hops.out]; rfl) (by kernel_rfl) rfl) (fun w hC => runq_neq (k := .u8) (p := 0) (q := 0) rfl (by kernel_rfl) (by kernel_rfl) (by rfl)) ?_
    refine QP.val (.bool false) (wantedq (j := 36) (d := 67) (want := false) (b := false) rfl (by rw [hops.out]; rfl) (by kernel_rfl) rfl) (fun w hC => runq_move rfl (by kernel_rfl)) ?_
    refine QP.skip (wantedq (j := 39) (d := 70) (want := true) (b := false) rfl (by rw [hops.out]; rfl) (by kernel_rfl) rfl) ?_
    refine QP.skip (wantedq (j := 39) (d := 70) (want := true) (b := false) rfl (by rw [hops.out]; rfl) (by kernel_rfl) rfl) ?_
    refine QP.val (.bool false) (wantedq (j := 36) (d := 67) (want := false) (b := false) rfl (by rw [hops.out]; rfl) (by kernel_rfl) rfl) (fun w hC => runq_pick (c := false) rfl (by kernel_rfl) (by kernel_rfl)) ?_
    refine QP.val (.bool false) (wantedq (j := 36) (d := 67) (want := false) (b := false) rfl (by rw [hops.out]; rfl) (by kernel_rfl) rfl) (fun w hC => runq_move rfl (by kernel_rfl)) ?_
    refine QP.skip (wantedq (j := 43) (d := 74) (want := true) (b := false) rfl (by rw [hops.out]; rfl) (by kernel_rfl) rfl) ?_
    refine QP.skip (wantedq (j := 43) (d := 74) (want := true) (b := false) rfl (by rw [hops.out]; rfl) (by kernel_rfl) rfl) ?_
    refine QP.val (.bool false) (wantedq (j := 36) (d := 67) (want := false) (b := false) rfl (by rw [hops.out]; rfl) (by kernel_rfl) rfl) (fun w hC => runq_pick (c := false) rfl (by kernel_rfl) (by kernel_rfl)) ?_
    refine QP.val (.bool false) (by rfl) (fun w hC => runq_pick (c := false) rfl (by kernel_rfl) (by kernel_rfl)) ?_
    refine QP.nil (hQ.out _ fun w3 hC => ?_)
    simp only [Act.put, List.setIfInBounds_toArray, List.set_cons_succ, List.set_cons_zero]
    clear hops hQ
    go_wp2_with fail
    have HB3 := HBW.out.trans (hC.mono HBW.out.size)
    clear hC HBc HR3 HR5 HSM
    go_loopw [7, 79] (fun s i wr => ∃ k : Nat, k ≤ 256 ∧ i = .int .i64 k ∧ s = .int .i64 (cntK k : Int) ∧ Below w.heap.size w wr) (fun _ i _ => 256 - (intOf i).toNat)
    case atStart => exact ⟨0, by omega, rfl, rfl, HB3⟩
    case round =>
      obtain ⟨k, hk, rfl, rfl, hbr⟩ := hrel
      by_cases hlt : k < 256
      · have ht : decide ((k : Int) < 256) = true := by simp; omega
        have hSr := (HS.out.below hbr (Nat.le_refl _)).more hbr.size
        have HBR := Lib.hid hbr
        obtain ⟨y, hy⟩ : ∃ y : UInt8, (k : Int) = (y.toNat : Int) := ⟨UInt8.ofNat k, by simp; omega⟩
        have hcl := cntK_le k
        have HY := Lib.hid hy
        clear hy hbr
        go_wp2_with (at_builtin; go_loud (refine wpList_append_sl (f := b8) b8_one rfl (.tmp 82) (.tmp 83) 27 rfl wr.heap.size 5 i0 (.int .u8 0) 1 Try.underlying27 hi hz0 hz1 hz2' rfl (.slice (some ⟨wr.heap.size, 0, none⟩) 0 0) 0 [] rfl (World.ownsRow_made wr #[] 0 (Nat.le_refl _) (by unfold maxLen; omega) rfl) (some ⟨b, off, none⟩) n c rfl (hSr.alloc (Nat.le_refl _) _) (by unfold maxLen; omega) (by omega) (by simp) ?_; intro v4 w4 hown4 hgrow4; simp only [Nat.zero_add, List.nil_append] at hown4; obtain ⟨g, cap, cur, hv4, hg1, hg2, hgc, hc0, -, hSw⟩ := own_swap hown4; subst hv4; have HB4 := Lib.hid (((Below.refl wr.heap.size wr).alloc (Nat.le_refl _) (.cells #[] 5)).grown hgrow4 (by simp) (by simp [Value.ownBlock])); have hcell4 := (cell_of_row _ _ 0 _ _ _ hgc).trans hc0; have hfz4 := frozen_of_row _ _ 0 _ _ hgc; have HSw := Lib.hid (hSw y k HY.out); clear hown4 hgrow4 hSw hgc hc0))
        have HB5 := Lib.hid (HBR.out.trans ((HB4.out.setCell (p := ⟨g, 0, none⟩) hg1 (.int .u8 (k : Int))).mono HBR.out.size))
        refine (Look_any _ _ _ (y :: r) _ (HSw.out.more (by rw [World.size_setCell]; exact Nat.le_refl _))).mono ?_
        rintro e w5 ⟨aw5, cw5, ab5, cb5, rfl, -, hb5, -⟩
        have HB6 := Lib.hid (HB5.out.trans (hb5.mono HB5.out.size))
        obtain ⟨hcode, h256⟩ := HC.out y r
        have heq : y = x0 → (lookN (y :: r)).2 = 0 := by rintro rfl; rw [HLK.out]
        clear hb5 HB5 HSw hfz4 hcell4 HB4 hSr
        generalize lookN (y :: r) = lk5 at *
        obtain ⟨⟨f5, a5, m5, t5, ws5, bs5⟩, ky⟩ := lk5
        dsimp only at hcode h256 heq
        have hyk : y.toNat = k := by have := HY.out; omega
        have hc5 : w5.cell? ⟨b, off, none⟩ = some (b8 x0) := (HB6.out.cell (p := ⟨b, off, none⟩) hbk).trans hcell
        have hc6 : ∀ o : Obj, (w5.alloc o).cell? ⟨b, off, none⟩ = some (b8 x0) := fun o => (World.cell?_alloc_lt w5 o _ (Nat.lt_of_lt_of_le hbk HB6.out.size)).trans hc5
        have HB7 := Lib.hid (fun o => HB6.out.alloc HB6.out.size o)
        have hz6 := HB6.out.size
        by_cases hkn : known k = true
        · have t1 : ((ky : Int) != 1) = true := by
            have : ¬ ky = 1 := fun h => by have := hcode.1 h; rw [hyk, hkn] at this; cases this
            simp; omega
          have HN := Lib.hid (cntK_on hkn)
          generalize hN : cntK k = N at *
          by_cases hx : k = x0.toNat
          · have t2 : ((k : Int) == (x0.toNat : Int)) = true := by simp; omega
            have t3 : ((ky : Int) != 0) = false := by
              have := heq (UInt8.toNat_inj.1 (by omega))
              simp; omega
            clear hcode heq hkn hyk h256
            go_wp2_with fail
            go_roundw
            case rel => exact ⟨k + 1, by omega, by go_num, by rw [HN.out]; go_num, HB7.out _⟩
            case measure => simp [intOf]; omega
          · have t2 : ((k : Int) == (x0.toNat : Int)) = false := by simp; omega
            clear hcode heq hkn hyk h256
            go_wp2_with fail
            go_roundw
            case rel => exact ⟨k + 1, by omega, by go_num, by rw [HN.out]; go_num, HB7.out _⟩
            case measure => simp [intOf]; omega
        · have hkn : known k = false := by simpa using hkn
          have t1 : ((ky : Int) != 1) = false := by
            have := hcode.2 (by rw [hyk, hkn])
            simp; omega
          have HN := Lib.hid (cntK_off hkn)
          generalize hN : cntK k = N at *
          by_cases hx : k = x0.toNat
          · have t2 : ((k : Int) == (x0.toNat : Int)) = true := by simp; omega
            have t3 : ((ky : Int) != 0) = false := by
              have := heq (UInt8.toNat_inj.1 (by omega))
              simp; omega
            clear hcode heq hkn hyk h256
            go_wp2_with fail
            go_roundw
            case rel => exact ⟨k + 1, by omega, by go_num, by rw [HN.out], HB7.out _⟩
            case measure => simp [intOf]; omega
          · have t2 : ((k : Int) == (x0.toNat : Int)) = false := by simp; omega
            clear hcode heq hkn hyk h256
            go_wp2_with fail
            go_roundw
            case rel => exact ⟨k + 1, by omega, by go_num, by rw [HN.out], HB7.out _⟩
            case measure => simp [intOf]; omega
      · obtain rfl : k = 256 := by omega
        have ht : decide (((256 : Nat) : Int) < 256) = false := by decide
        rw [cntK_all]
        have HBR := Lib.hid hbr
        clear hbr
        go_wp2_with fail
        refine (awake_any _).mono ?_
        rintro e w5 ⟨rfl, hb5⟩
        go_wp2_with fail
        go_ret
        exact Says.mk (HBR.out.trans (hb5.mono HBR.out.size))
  · rcases HLN.out rfl with hl | hl
    · injection hl with e1 e2
      unfold bare at e1
      injection e1 with e1 e3 e4 e5 e6 e7
      subst e2 e3 e4 e5 e6 e7
      obtain rfl := e1.symm
      clear HLF HLN HPO
      have HP : Go.RowKit.Hid (AskAt w2 w2.heap.size (bare 0) pw dw pb db) := Lib.hid HP.out
      have H3' : Go.RowKit.Hid (w2.heap[w1.heap.size]? = some (.cells #[.int .u8 (x0.toNat : Int), .int .u16 0, .int .u16 0, .int .u16 0, .slice aw 0 cw, .slice ab 0 cb] 26 (0, 0))) := Lib.hid H3'.out
      go_wp2_with fail
      have HW0 := Lib.hid (show w2.heap.size < (w2.alloc (.cells #[.int .u8 ((bare 0).fn.toNat : Int), .int .u16 ((bare 0).at_.toNat : Int), .int .u16 ((bare 0).many.toNat : Int), .int .u16 ((bare 0).to_.toNat : Int), .slice pw (bare 0).words.length dw, .slice pb (bare 0).bits.length db] 26)).heap.size by simp)
      have H5 := Lib.hid (heap_alloc_new w2 (.cells #[.int .u8 ((bare 0).fn.toNat : Int), .int .u16 ((bare 0).at_.toNat : Int), .int .u16 ((bare 0).many.toNat : Int), .int .u16 ((bare 0).to_.toNat : Int), .slice pw (bare 0).words.length dw, .slice pb (bare 0).bits.length db] 26))
      have H3 := Lib.hid ((Below.heap_alloc w2 (.cells #[.int .u8 ((bare 0).fn.toNat : Int), .int .u16 ((bare 0).at_.toNat : Int), .int .u16 ((bare 0).many.toNat : Int), .int .u16 ((bare 0).to_.toNat : Int), .slice pw (bare 0).words.length dw, .slice pb (bare 0).bits.length db] 26) _ hz2).trans H3'.out)
      have HBW := Lib.hid (HB2.out.alloc HB2.out.size (.cells #[.int .u8 ((bare 0).fn.toNat : Int), .int .u16 ((bare 0).at_.toNat : Int), .int .u16 ((bare 0).many.toNat : Int), .int .u16 ((bare 0).to_.toNat : Int), .slice pw (bare 0).words.length dw, .slice pb (bare 0).bits.length db] 26))
      have hb0 := (Below.refl w2.heap.size w2).alloc (Nat.le_refl _) (.cells #[.int .u8 ((bare 0).fn.toNat : Int), .int .u16 ((bare 0).at_.toNat : Int), .int .u16 ((bare 0).many.toNat : Int), .int .u16 ((bare 0).to_.toNat : Int), .slice pw (bare 0).words.length dw, .slice pb (bare 0).bits.length db] 26)
      have HSM : Go.RowKit.Hid (∀ W, Below (w2.alloc (.cells #[.int .u8 ((bare 0).fn.toNat : Int), .int .u16 ((bare 0).at_.toNat : Int), .int .u16 ((bare 0).many.toNat : Int), .int .u16 ((bare 0).to_.toNat : Int), .slice pw (bare 0).words.length dw, .slice pb (bare 0).bits.length db] 26)).heap.size (w2.alloc (.cells #[.int .u8 ((bare 0).fn.toNat : Int), .int .u16 ((bare 0).at_.toNat : Int), .int .u16 ((bare 0).many.toNat : Int), .int .u16 ((bare 0).to_.toNat : Int), .slice pw (bare 0).words.length dw, .slice pb (bare 0).bits.length db] 26)) W → Calls Try.prog 15 #[.agg #[.int .u8 (x0.toNat : Int), .int .u16 0, .int .u16 0, .int .u16 0, .slice aw 0 cw, .slice ab 0 cb], .agg #[.int .u8 (x0.toNat : Int), .int .u16 0, .int .u16 0, .int .u16 0, .slice none 0 0, .slice none 0 0]] W fun e W' => e = .returned (.bool true) ∧ Below (w2.alloc (.cells #[.int .u8 ((bare 0).fn.toNat : Int), .int .u16 ((bare 0).at_.toNat : Int), .int .u16 ((bare 0).many.toNat : Int), .int .u16 ((bare 0).to_.toNat : Int), .slice pw (bare 0).words.length dw, .slice pb (bare 0).bits.length db] 26)).heap.size (w2.alloc (.cells #[.int .u8 ((bare 0).fn.toNat : Int), .int .u16 ((bare 0).at_.toNat : Int), .int .u16 ((bare 0).many.toNat : Int), .int .u16 ((bare 0).to_.toNat : Int), .slice pw (bare 0).words.length dw, .slice pb (bare 0).bits.length db] 26)) W') := by
        have hs := same_on (a := bare x0) (o := bare x0) (aw := aw) (cw := cw) (ab := ab) (cb := cb) (ow := none) (dw := 0) (ob := none) (db := 0) (AskAt.below HAA.out hb0) ⟨Sl.none_, Sl.none_⟩ (x := true) (by simp)
        exact Lib.hid hs
      clear hb0 HAA HP H3'
      generalize w2.alloc (.cells #[.int .u8 ((bare 0).fn.toNat : Int), .int .u16 ((bare 0).at_.toNat : Int), .int .u16 ((bare 0).many.toNat : Int), .int .u16 ((bare 0).to_.toNat : Int), .slice pw (bare 0).words.length dw, .slice pb (bare 0).bits.length db] 26) = W0 at *
      have HR3 : ∀ W, Below W0.heap.size W0 W → W.heap[w1.heap.size]? = some (.cells #[.int .u8 (x0.toNat : Int), .int .u16 0, .int .u16 0, .int .u16 0, .slice aw 0 cw, .slice ab 0 cb] 26 (0, 0)) := fun W h => (h.block _ (by have := hz2; have := HW0.out; omega)).trans H3.out
      have HR5 : ∀ W, Below W0.heap.size W0 W → W.heap[w2.heap.size]? = some (.cells #[.int .u8 0, .int .u16 0, .int .u16 0, .int .u16 0, .slice pw 0 dw, .slice pb 0 db] 26 (0, 0)) := fun W h => (h.block _ (by have := HW0.out; omega)).trans H5.out
      have HBc : ∀ W, Below W0.heap.size W0 W → W.cell? ⟨b, off, none⟩ = some (b8 x0) := fun W h => (HBW.out.trans (h.mono HBW.out.size)).cell (p := ⟨b, off, none⟩) hbk |>.trans hcell
      refine region_quiet (fun W => Below W0.heap.size W0 W) (by kernel_rfl) (by kernel_rfl) (Below.refl _ _).drew ?_
      intro ops Q' hops hQ
      refine QP.val (.int .u8 1) (by rfl) (fun w hC => runq_move rfl (by kernel_rfl)) ?_
      refine QP.val (.bool false) (by rfl) (fun w hC => runq_eql (k := .u8) (p := 1) (q := 0) rfl (by kernel_rfl) (by kernel_rfl) (by rfl)) ?_
      refine QP.val (.int .i64 12) (by rfl) (fun w hC => runq_move rfl (by kernel_rfl)) ?_
      refine QP.val (.bool false) (by rfl) (fun w hC => runq_eql (k := .i64) (p := 12) (q := 0) rfl (by kernel_rfl) (by kernel_rfl) (by rfl)) ?_
      refine QP.val (.bool false) (by rfl) (fun w hC => runq_neqb (p := false) (q := false) Try.underlying4 rfl (by kernel_rfl) (by kernel_rfl) rfl) ?_
      refine QP.val (.bool false) (by rfl) (fun w hC => runq_move rfl (by kernel_rfl)) ?_
      refine QP.val (.pointer (some ⟨w1.heap.size, 0, none⟩)) (wantedq (j := 5) (d := 36) (want := false) (b := false) rfl (by rw [hops.out]; rfl) (by kernel_rfl) rfl) (fun w hC => by kernel_rfl) ?_
      refine QP.val (.int .u8 (x0.toNat : Int)) (wantedq (j := 5) (d := 36) (want := false) (b := false) rfl (by rw [hops.out]; rfl) (by kernel_rfl) rfl) (fun w hC => runq_load_int (p := ⟨w1.heap.size, 0, none⟩) rfl (by kernel_rfl) (cell_of_row _ _ 0 _ _ _ (HR3 w hC)) Try.underlying5) ?_
      refine QP.val (.slice (some ⟨b, off, none⟩) n c) (wantedq (j := 5) (d := 36) (want := false) (b := false) rfl (by rw [hops.out]; rfl) (by kernel_rfl) rfl) (fun w hC => runq_move rfl (by kernel_rfl)) ?_
      refine QP.val (.pointer (some ⟨b, off, none⟩)) (wantedq (j := 5) (d := 36) (want := false) (b := false) rfl (by rw [hops.out]; rfl) (by kernel_rfl) rfl) (fun w hC => runq_indexAddr (b := b) (off := off) (n := n) (c := c) (i := 0) (k := .i64) rfl Try.underlying27 (fun _ => by kernel_rfl) (by kernel_rfl) (by kernel_rfl) hn0) ?_
      refine QP.val (.int .u8 (x0.toNat : Int)) (wantedq (j := 5) (d := 36) (want := false) (b := false) rfl (by rw [hops.out]; rfl) (by kernel_rfl) rfl) (fun w hC => runq_load_int (p := ⟨b, off, none⟩) rfl (by kernel_rfl) (HBc w hC) Try.underlying5) ?_
      refine QP.val (.bool false) (wantedq (j := 5) (d := 36) (want := false) (b := false) rfl (by rw [hops.out]; rfl) (by kernel_rfl) rfl) (fun w hC => runq_neq (k := .u8) (p := (x0.toNat : Int)) (q := (x0.toNat : Int)) rfl (by kernel_rfl) (by kernel_rfl) (by simp)) ?_
      refine QP.val (.bool false) (by rfl) (fun w hC => runq_pick (c := false) rfl (by kernel_rfl) (by kernel_rfl)) ?_
      refine QP.val (.bool false) (by rfl) (fun w hC => runq_move rfl (by kernel_rfl)) ?_
      refine QP.val (.int .u8 1) (wantedq (j := 13) (d := 44) (want := false) (b := false) rfl (by rw [hops.out]; rfl) (by kernel_rfl) rfl) (fun w hC => runq_move rfl (by kernel_rfl)) ?_
      refine QP.val (.bool false) (wantedq (j := 13) (d := 44) (want := false) (b := false) rfl (by rw [hops.out]; rfl) (by kernel_rfl) rfl) (fun w hC => runq_eql (k := .u8) (p := 1) (q := 0) rfl (by kernel_rfl) (by kernel_rfl) (by rfl)) ?_
      refine QP.val (.bool false) (wantedq (j := 13) (d := 44) (want := false) (b := false) rfl (by rw [hops.out]; rfl) (by kernel_rfl) rfl) (fun w hC => runq_move rfl (by kernel_rfl)) ?_
      refine QP.skip (wantedq (j := 16) (d := 47) (want := true) (b := false) rfl (by rw [hops.out]; rfl) (by kernel_rfl) rfl) ?_
      refine QP.skip (wantedq (j := 16) (d := 47) (want := true) (b := false) rfl (by rw [hops.out]; rfl) (by kernel_rfl) rfl) ?_
      refine QP.skip (wantedq (j := 16) (d := 47) (want := true) (b := false) rfl (by rw [hops.out]; rfl) (by kernel_rfl) rfl) ?_
      refine QP.skip (wantedq (j := 16) (d := 47) (want := true) (b := false) rfl (by rw [hops.out]; rfl) (by kernel_rfl) rfl) ?_
      refine QP.val (.bool false) (wantedq (j := 13) (d := 44) (want := false) (b := false) rfl (by rw [hops.out]; rfl) (by kernel_rfl) rfl) (fun w hC => runq_pick (c := false) rfl (by kernel_rfl) (by kernel_rfl)) ?_
      refine QP.val (.bool false) (by rfl) (fun w hC => runq_pick (c := false) rfl (by kernel_rfl) (by kernel_rfl)) ?_
      refine QP.val (.bool false) (by rfl) (fun w hC => runq_move rfl (by kernel_rfl)) ?_
      refine QP.val (.int .u8 1) (wantedq (j := 23) (d := 54) (want := false) (b := false) rfl (by rw [hops.out]; rfl) (by kernel_rfl) rfl) (fun w hC => runq_move rfl (by kernel_rfl)) ?_
      refine QP.val (.bool true) (wantedq (j := 23) (d := 54) (want := false) (b := false) rfl (by rw [hops.out]; rfl) (by kernel_rfl) rfl) (fun w hC => runq_neq (k := .u8) (p := 1) (q := 0) rfl (by kernel_rfl) (by kernel_rfl) (by rfl)) ?_
      refine QP.val (.bool true) (wantedq (j := 23) (d := 54) (want := false) (b := false) rfl (by rw [hops.out]; rfl) (by kernel_rfl) rfl) (fun w hC => runq_move rfl (by kernel_rfl)) ?_
      refine QP.val (.agg #[.int .u8 (x0.toNat : Int), .int .u16 0, .int .u16 0, .int .u16 0, .slice aw 0 cw, .slice ab 0 cb]) (wantedq (j := 26) (d := 57) (want := true) (b := true) rfl (by rw [hops.out]; rfl) (by kernel_rfl) rfl) (fun w hC => runq_load_row (t := 26) (g := w1.heap.size) (fr := (0, 0)) rfl (by kernel_rfl) (HR3 w hC) Try.underlying26 rfl (by kernel_rfl)) ?_
      refine QP.val (.slice (some ⟨b, off, none⟩) n c) (wantedq (j := 26) (d := 57) (want := true) (b := true) rfl (by rw [hops.out]; rfl) (by kernel_rfl) rfl) (fun w hC => runq_move rfl (by kernel_rfl)) ?_
      refine QP.val (.pointer (some ⟨b, off, none⟩)) (wantedq (j := 26) (d := 57) (want := true) (b := true) rfl (by rw [hops.out]; rfl) (by kernel_rfl) rfl) (fun w hC => runq_indexAddr (b := b) (off := off) (n := n) (c := c) (i := 0) (k := .i64) rfl Try.underlying27 (fun _ => by kernel_rfl) (by kernel_rfl) (by kernel_rfl) hn0) ?_
      refine QP.val (.int .u8 (x0.toNat : Int)) (wantedq (j := 26) (d := 57) (want := true) (b := true) rfl (by rw [hops.out]; rfl) (by kernel_rfl) rfl) (fun w hC => runq_load_int (p := ⟨b, off, none⟩) rfl (by kernel_rfl) (HBc w hC) Try.underlying5) ?_
      refine QP.val (.agg #[.int .u8 (x0.toNat : Int), .int .u16 0, .int .u16 0, .int .u16 0, .slice none 0 0, .slice none 0 0]) (wantedq (j := 26) (d := 57) (want := true) (b := true) rfl (by rw [hops.out]; rfl) (by kernel_rfl) rfl) (fun w hC => by kernel_rfl) ?_
      refine QP.call 15 #[.agg #[.int .u8 (x0.toNat : Int), .int .u16 0, .int .u16 0, .int .u16 0, .slice aw 0 cw, .slice ab 0 cb], .agg #[.int .u8 (x0.toNat : Int), .int .u16 0, .int .u16 0, .int .u16 0, .slice none 0 0, .slice none 0 0]] (.bool true) (wantedq (j := 26) (d := 57) (want := true) (b := true) rfl (by rw [hops.out]; rfl) (by kernel_rfl) rfl) (fun w hC => (congrArg (fun s => Sem.run Try.prog s w) (by kernel_rfl)).trans (enters_same #[.agg #[.int .u8 (x0.toNat : Int), .int .u16 0, .int .u16 0, .int .u16 0, .slice aw 0 cw, .slice ab 0 cb], .agg #[.int .u8 (x0.toNat : Int), .int .u16 0, .int .u16 0, .int .u16 0, .slice none 0 0, .slice none 0 0]] w)) (fun w hC => HSM w hC) ?_
      refine QP.val (.bool false) (wantedq (j := 26) (d := 57) (want := true) (b := true) rfl (by rw [hops.out]; rfl) (by kernel_rfl) rfl) (fun w hC => runq_not (c := true) rfl (by kernel_rfl) rfl) ?_
      refine QP.val (.bool false) (wantedq (j := 23) (d := 54) (want := false) (b := false) rfl (by rw [hops.out]; rfl) (by kernel_rfl) rfl) (fun w hC => runq_pick (c := true) rfl (by kernel_rfl) (by kernel_rfl)) ?_
      refine QP.val (.bool false) (by rfl) (fun w hC => runq_pick (c := false) rfl (by kernel_rfl) (by kernel_rfl)) ?_
      refine QP.val (.bool false) (by rfl) (fun w hC => runq_move rfl (by kernel_rfl)) ?_
      refine QP.val (.int .u8 1) (wantedq (j := 36) (d := 67) (want := false) (b := false) rfl (by rw [hops.out]; rfl) (by kernel_rfl) rfl) (fun w hC => runq_move rfl (by kernel_rfl)) ?_
      refine QP.val (.bool true) (wantedq (j := 36) (d := 67) (want := false) (b := false) rfl (by rw [hops.out]; rfl) (by kernel_rfl) rfl) (fun w hC => runq_neq (k := .u8) (p := 1) (q := 0) rfl (by kernel_rfl) (by kernel_rfl) (by rfl)) ?_
      refine QP.val (.bool true) (wantedq (j := 36) (d := 67) (want := false) (b := false) rfl (by rw [hops.out]; rfl) (by kernel_rfl) rfl) (fun w hC => runq_move rfl (by kernel_rfl)) ?_
      refine QP.val (.int .u8 1) (wantedq (j := 39) (d := 70) (want := true) (b := true) rfl (by rw [hops.out]; rfl) (by kernel_rfl) rfl) (fun w hC => runq_move rfl (by kernel_rfl)) ?_
      refine QP.val (.bool false) (wantedq (j := 39) (d := 70) (want := true) (b := true) rfl (by rw [hops.out]; rfl) (by kernel_rfl) rfl) (fun w hC => runq_neq (k := .u8) (p := 1) (q := 1) rfl (by kernel_rfl) (by kernel_rfl) (by rfl)) ?_
      refine QP.val (.bool false) (wantedq (j := 36) (d := 67) (want := false) (b := false) rfl (by rw [hops.out]; rfl) (by kernel_rfl) rfl) (fun w hC => runq_pick (c := true) rfl (by kernel_rfl) (by kernel_rfl)) ?_
      refine QP.val (.bool false) (wantedq (j := 36) (d := 67) (want := false) (b := false) rfl (by rw [hops.out]; rfl) (by kernel_rfl) rfl) (fun w hC => runq_move rfl (by kernel_rfl)) ?_
      refine QP.skip (wantedq (j := 43) (d := 74) (want := true) (b := false) rfl (by rw [hops.out]; rfl) (by kernel_rfl) rfl) ?_
      refine QP.skip (wantedq (j := 43) (d := 74) (want := true) (b := false) rfl (by rw [hops.out]; rfl) (by kernel_rfl) rfl) ?_
      refine QP.val (.bool false) (wantedq (j := 36) (d := 67) (want := false) (b := false) rfl (by rw [hops.out]; rfl) (by kernel_rfl) rfl) (fun w hC => runq_pick (c := false) rfl (by kernel_rfl) (by kernel_rfl)) ?_
      refine QP.val (.bool false) (by rfl) (fun w hC => runq_pick (c := false) rfl (by kernel_rfl) (by kernel_rfl)) ?_
      refine QP.nil (hQ.out _ fun w3 hC => ?_)
      simp only [Act.put, List.setIfInBounds_toArray, List.set_cons_succ, List.set_cons_zero]
      clear hops hQ
      go_wp2_with fail
      have HB3 := HBW.out.trans (hC.mono HBW.out.size)
      clear hC HBc HR3 HR5 HSM
      go_loopw [7, 79] (fun s i wr => ∃ k : Nat, k ≤ 256 ∧ i = .int .i64 k ∧ s = .int .i64 (cntK k : Int) ∧ Below w.heap.size w wr) (fun _ i _ => 256 - (intOf i).toNat)
      case atStart => exact ⟨0, by omega, rfl, rfl, HB3⟩
      case round =>
        obtain ⟨k, hk, rfl, rfl, hbr⟩ := hrel
        by_cases hlt : k < 256
        · have ht : decide ((k : Int) < 256) = true := by simp; omega
          have hSr := (HS.out.below hbr (Nat.le_refl _)).more hbr.size
          have HBR := Lib.hid hbr
          obtain ⟨y, hy⟩ : ∃ y : UInt8, (k : Int) = (y.toNat : Int) := ⟨UInt8.ofNat k, by simp; omega⟩
          have hcl := cntK_le k
          have HY := Lib.hid hy
          clear hy hbr
          go_wp2_with (at_builtin; go_loud (refine wpList_append_sl (f := b8) b8_one rfl (.tmp 82) (.tmp 83) 27 rfl wr.heap.size 5 i0 (.int .u8 0) 1 Try.underlying27 hi hz0 hz1 hz2' rfl (.slice (some ⟨wr.heap.size, 0, none⟩) 0 0) 0 [] rfl (World.ownsRow_made wr #[] 0 (Nat.le_refl _) (by unfold maxLen; omega) rfl) (some ⟨b, off, none⟩) n c rfl (hSr.alloc (Nat.le_refl _) _) (by unfold maxLen; omega) (by omega) (by simp) ?_; intro v4 w4 hown4 hgrow4; simp only [Nat.zero_add, List.nil_append] at hown4; obtain ⟨g, cap, cur, hv4, hg1, hg2, hgc, hc0, -, hSw⟩ := own_swap hown4; subst hv4; have HB4 := Lib.hid (((Below.refl wr.heap.size wr).alloc (Nat.le_refl _) (.cells #[] 5)).grown hgrow4 (by simp) (by simp [Value.ownBlock])); have hcell4 := (cell_of_row _ _ 0 _ _ _ hgc).trans hc0; have hfz4 := frozen_of_row _ _ 0 _ _ hgc; have HSw := Lib.hid (hSw y k HY.out); clear hown4 hgrow4 hSw hgc hc0))
          have HB5 := Lib.hid (HBR.out.trans ((HB4.out.setCell (p := ⟨g, 0, none⟩) hg1 (.int .u8 (k : Int))).mono HBR.out.size))
          refine (Look_any _ _ _ (y :: r) _ (HSw.out.more (by rw [World.size_setCell]; exact Nat.le_refl _))).mono ?_
          rintro e w5 ⟨aw5, cw5, ab5, cb5, rfl, -, hb5, -⟩
          have HB6 := Lib.hid (HB5.out.trans (hb5.mono HB5.out.size))
          obtain ⟨hcode, h256⟩ := HC.out y r
          have heq : y = x0 → (lookN (y :: r)).2 = 1 := by rintro rfl; rw [HLK.out]
          clear hb5 HB5 HSw hfz4 hcell4 HB4 hSr
          generalize lookN (y :: r) = lk5 at *
          obtain ⟨⟨f5, a5, m5, t5, ws5, bs5⟩, ky⟩ := lk5
          dsimp only at hcode h256 heq
          have hyk : y.toNat = k := by have := HY.out; omega
          have hc5 : w5.cell? ⟨b, off, none⟩ = some (b8 x0) := (HB6.out.cell (p := ⟨b, off, none⟩) hbk).trans hcell
          have hc6 : ∀ o : Obj, (w5.alloc o).cell? ⟨b, off, none⟩ = some (b8 x0) := fun o => (World.cell?_alloc_lt w5 o _ (Nat.lt_of_lt_of_le hbk HB6.out.size)).trans hc5
          have HB7 := Lib.hid (fun o => HB6.out.alloc HB6.out.size o)
          have hz6 := HB6.out.size
          by_cases hkn : known k = true
          · have t1 : ((ky : Int) != 1) = true := by
              have : ¬ ky = 1 := fun h => by have := hcode.1 h; rw [hyk, hkn] at this; cases this
              simp; omega
            have HN := Lib.hid (cntK_on hkn)
            generalize hN : cntK k = N at *
            by_cases hx : k = x0.toNat
            · exact absurd (hcode.1 (heq (UInt8.toNat_inj.1 (by omega)))) (by rw [hyk, hkn]; decide)
            · have t2 : ((k : Int) == (x0.toNat : Int)) = false := by simp; omega
              clear hcode heq hkn hyk h256
              go_wp2_with fail
              go_roundw
              case rel => exact ⟨k + 1, by omega, by go_num, by rw [HN.out]; go_num, HB7.out _⟩
              case measure => simp [intOf]; omega
          · have hkn : known k = false := by simpa using hkn
            have t1 : ((ky : Int) != 1) = false := by
              have := hcode.2 (by rw [hyk, hkn])
              simp; omega
            have HN := Lib.hid (cntK_off hkn)
            generalize hN : cntK k = N at *
            by_cases hx : k = x0.toNat
            · have t2 : ((k : Int) == (x0.toNat : Int)) = true := by simp; omega
              have t3 : ((ky : Int) != 1) = false := by
                have := heq (UInt8.toNat_inj.1 (by omega))
                simp; omega
              clear hcode heq hkn hyk h256
              go_wp2_with fail
              go_roundw
              case rel => exact ⟨k + 1, by omega, by go_num, by rw [HN.out], HB7.out _⟩
              case measure => simp [intOf]; omega
            · have t2 : ((k : Int) == (x0.toNat : Int)) = false := by simp; omega
              clear hcode heq hkn hyk h256
              go_wp2_with fail
              go_roundw
              case rel => exact ⟨k + 1, by omega, by go_num, by rw [HN.out], HB7.out _⟩
              case measure => simp [intOf]; omega
        · obtain rfl : k = 256 := by omega
          have ht : decide (((256 : Nat) : Int) < 256) = false := by decide
          rw [cntK_all]
          have HBR := Lib.hid hbr
          clear hbr
          go_wp2_with fail
          refine (awake_any _).mono ?_
          rintro e w5 ⟨rfl, hb5⟩
          go_wp2_with fail
          go_ret
          exact Says.mk (HBR.out.trans (hb5.mono HBR.out.size))
    · injection hl with e1 e2
      unfold bare at e1
      injection e1 with e1 e3 e4 e5 e6 e7
      subst e2 e3 e4 e5 e6 e7
      obtain rfl := e1.symm
      clear HLF HLN HPO
      have HP : Go.RowKit.Hid (AskAt w2 w2.heap.size (bare 0) pw dw pb db) := Lib.hid HP.out
      have H3' : Go.RowKit.Hid (w2.heap[w1.heap.size]? = some (.cells #[.int .u8 (x0.toNat : Int), .int .u16 0, .int .u16 0, .int .u16 0, .slice aw 0 cw, .slice ab 0 cb] 26 (0, 0))) := Lib.hid H3'.out
      go_wp2_with fail
      have HW0 := Lib.hid (show w2.heap.size < (w2.alloc (.cells #[.int .u8 ((bare 0).fn.toNat : Int), .int .u16 ((bare 0).at_.toNat : Int), .int .u16 ((bare 0).many.toNat : Int), .int .u16 ((bare 0).to_.toNat : Int), .slice pw (bare 0).words.length dw, .slice pb (bare 0).bits.length db] 26)).heap.size by simp)
      have H5 := Lib.hid (heap_alloc_new w2 (.cells #[.int .u8 ((bare 0).fn.toNat : Int), .int .u16 ((bare 0).at_.toNat : Int), .int .u16 ((bare 0).many.toNat : Int), .int .u16 ((bare 0).to_.toNat : Int), .slice pw (bare 0).words.length dw, .slice pb (bare 0).bits.length db] 26))
      have H3 := Lib.hid ((Below.heap_alloc w2 (.cells #[.int .u8 ((bare 0).fn.toNat : Int), .int .u16 ((bare 0).at_.toNat : Int), .int .u16 ((bare 0).many.toNat : Int), .int .u16 ((bare 0).to_.toNat : Int), .slice pw (bare 0).words.length dw, .slice pb (bare 0).bits.length db] 26) _ hz2).trans H3'.out)
      have HBW := Lib.hid (HB2.out.alloc HB2.out.size (.cells #[.int .u8 ((bare 0).fn.toNat : Int), .int .u16 ((bare 0).at_.toNat : Int), .int .u16 ((bare 0).many.toNat : Int), .int .u16 ((bare 0).to_.toNat : Int), .slice pw (bare 0).words.length dw, .slice pb (bare 0).bits.length db] 26))
      have hb0 := (Below.refl w2.heap.size w2).alloc (Nat.le_refl _) (.cells #[.int .u8 ((bare 0).fn.toNat : Int), .int .u16 ((bare 0).at_.toNat : Int), .int .u16 ((bare 0).many.toNat : Int), .int .u16 ((bare 0).to_.toNat : Int), .slice pw (bare 0).words.length dw, .slice pb (bare 0).bits.length db] 26)
      have HSM : Go.RowKit.Hid (∀ W, Below (w2.alloc (.cells #[.int .u8 ((bare 0).fn.toNat : Int), .int .u16 ((bare 0).at_.toNat : Int), .int .u16 ((bare 0).many.toNat : Int), .int .u16 ((bare 0).to_.toNat : Int), .slice pw (bare 0).words.length dw, .slice pb (bare 0).bits.length db] 26)).heap.size (w2.alloc (.cells #[.int .u8 ((bare 0).fn.toNat : Int), .int .u16 ((bare 0).at_.toNat : Int), .int .u16 ((bare 0).many.toNat : Int), .int .u16 ((bare 0).to_.toNat : Int), .slice pw (bare 0).words.length dw, .slice pb (bare 0).bits.length db] 26)) W → Calls Try.prog 15 #[.agg #[.int .u8 (x0.toNat : Int), .int .u16 0, .int .u16 0, .int .u16 0, .slice aw 0 cw, .slice ab 0 cb], .agg #[.int .u8 (x0.toNat : Int), .int .u16 0, .int .u16 0, .int .u16 0, .slice none 0 0, .slice none 0 0]] W fun e W' => e = .returned (.bool true) ∧ Below (w2.alloc (.cells #[.int .u8 ((bare 0).fn.toNat : Int), .int .u16 ((bare 0).at_.toNat : Int), .int .u16 ((bare 0).many.toNat : Int), .int .u16 ((bare 0).to_.toNat : Int), .slice pw (bare 0).words.length dw, .slice pb (bare 0).bits.length db] 26)).heap.size (w2.alloc (.cells #[.int .u8 ((bare 0).fn.toNat : Int), .int .u16 ((bare 0).at_.toNat : Int), .int .u16 ((bare 0).many.toNat : Int), .int .u16 ((bare 0).to_.toNat : Int), .slice pw (bare 0).words.length dw, .slice pb (bare 0).bits.length db] 26)) W') := by
        have hs := same_on (a := bare x0) (o := bare x0) (aw := aw) (cw := cw) (ab := ab) (cb := cb) (ow := none) (dw := 0) (ob := none) (db := 0) (AskAt.below HAA.out hb0) ⟨Sl.none_, Sl.none_⟩ (x := true) (by simp)
        exact Lib.hid hs
      clear hb0 HAA HP H3'
      generalize w2.alloc (.cells #[.int .u8 ((bare 0).fn.toNat : Int), .int .u16 ((bare 0).at_.toNat : Int), .int .u16 ((bare 0).many.toNat : Int), .int .u16 ((bare 0).to_.toNat : Int), .slice pw (bare 0).words.length dw, .slice pb (bare 0).bits.length db] 26) = W0 at *
      have HR3 : ∀ W, Below W0.heap.size W0 W → W.heap[w1.heap.size]? = some (.cells #[.int .u8 (x0.toNat : Int), .int .u16 0, .int .u16 0, .int .u16 0, .slice aw 0 cw, .slice ab 0 cb] 26 (0, 0)) := fun W h => (h.block _ (by have := hz2; have := HW0.out; omega)).trans H3.out
      have HR5 : ∀ W, Below W0.heap.size W0 W → W.heap[w2.heap.size]? = some (.cells #[.int .u8 0, .int .u16 0, .int .u16 0, .int .u16 0, .slice pw 0 dw, .slice pb 0 db] 26 (0, 0)) := fun W h => (h.block _ (by have := HW0.out; omega)).trans H5.out
      have HBc : ∀ W, Below W0.heap.size W0 W → W.cell? ⟨b, off, none⟩ = some (b8 x0) := fun W h => (HBW.out.trans (h.mono HBW.out.size)).cell (p := ⟨b, off, none⟩) hbk |>.trans hcell
      refine region_quiet (fun W => Below W0.heap.size W0 W) (by kernel_rfl) (by kernel_rfl) (Below.refl _ _).drew ?_
      intro ops Q' hops hQ
      refine QP.val (.int .u8 3) (by rfl) (fun w hC => runq_move rfl (by kernel_rfl)) ?_
      refine QP.val (.bool false) (by rfl) (fun w hC => runq_eql (k := .u8) (p := 3) (q := 0) rfl (by kernel_rfl) (by kernel_rfl) (by rfl)) ?_
      refine QP.val (.int .i64 12) (by rfl) (fun w hC => runq_move rfl (by kernel_rfl)) ?_
      refine QP.val (.bool false) (by rfl) (fun w hC => runq_eql (k := .i64) (p := 12) (q := 0) rfl (by kernel_rfl) (by kernel_rfl) (by rfl)) ?_
      refine QP.val (.bool false) (by rfl) (fun w hC => runq_neqb (p := false) (q := false) Try.underlying4 rfl (by kernel_rfl) (by kernel_rfl) rfl) ?_
      refine QP.val (.bool false) (by rfl) (fun w hC => runq_move rfl (by kernel_rfl)) ?_
      refine QP.val (.pointer (some ⟨w1.heap.size, 0, none⟩)) (wantedq (j := 5) (d := 36) (want := false) (b := false) rfl (by rw [hops.out]; rfl) (by kernel_rfl) rfl) (fun w hC => by kernel_rfl) ?_
      refine QP.val (.int .u8 (x0.toNat : Int)) (wantedq (j := 5) (d := 36) (want := false) (b := false) rfl (by rw [hops.out]; rfl) (by kernel_rfl) rfl) (fun w hC => runq_load_int (p := ⟨w1.heap.size, 0, none⟩) rfl (by kernel_rfl) (cell_of_row _ _ 0 _ _ _ (HR3 w hC)) Try.underlying5) ?_
      refine QP.val (.slice (some ⟨b, off, none⟩) n c) (wantedq (j := 5) (d := 36) (want := false) (b := false) rfl (by rw [hops.out]; rfl) (by kernel_rfl) rfl) (fun w hC => runq_move rfl (by kernel_rfl)) ?_
      refine QP.val (.pointer (some ⟨b, off, none⟩)) (wantedq (j := 5) (d := 36) (want := false) (b := false) rfl (by rw [hops.out]; rfl) (by kernel_rfl) rfl) (fun w hC => runq_indexAddr (b := b) (off := off) (n := n) (c := c) (i := 0) (k := .i64) rfl Try.underlying27 (fun _ => by kernel_rfl) (by kernel_rfl) (by kernel_rfl) hn0) ?_
      refine QP.val (.int .u8 (x0.toNat : Int)) (wantedq (j := 5) (d := 36) (want := false) (b := false) rfl (by rw [hops.out]; rfl) (by kernel_rfl) rfl) (fun w hC => runq_load_int (p := ⟨b, off, none⟩) rfl (by kernel_rfl) (HBc w hC) Try.underlying5) ?_
      refine QP.val (.bool false) (wantedq (j := 5) (d := 36) (want := false) (b := false) rfl (by rw [hops.out]; rfl) (by kernel_rfl) rfl) (fun w hC => runq_neq (k := .u8) (p := (x0.toNat : Int)) (q := (x0.toNat : Int)) rfl (by kernel_rfl) (by kernel_rfl) (by simp)) ?_
      refine QP.val (.bool false) (by rfl) (fun w hC => runq_pick (c := false) rfl (by kernel_rfl) (by kernel_rfl)) ?_
      refine QP.val (.bool false) (by rfl) (fun w hC => runq_move rfl (by kernel_rfl)) ?_
      refine QP.val (.int .u8 3) (wantedq (j := 13) (d := 44) (want := false) (b := false) rfl (by rw [hops.out]; rfl) (by kernel_rfl) rfl) (fun w hC => runq_move rfl (by kernel_rfl)) ?_
      refine QP.val (.bool false) (wantedq (j := 13) (d := 44) (want := false) (b := false) rfl (by rw [hops.out]; rfl) (by kernel_rfl) rfl) (fun w hC => runq_eql (k := .u8) (p := 3) (q := 0) rfl (by kernel_rfl) (by kernel_rfl) (by rfl)) ?_
      refine QP.val (.bool false) (wantedq (j := 13) (d := 44) (want := false) (b := false) rfl (by rw [hops.out]; rfl) (by kernel_rfl) rfl) (fun w hC => runq_move rfl (by kernel_rfl)) ?_
      refine QP.skip (wantedq (j := 16) (d := 47) (want := true) (b := false) rfl (by rw [hops.out]; rfl) (by kernel_rfl) rfl) ?_
      refine QP.skip (wantedq (j := 16) (d := 47) (want := true) (b := false) rfl (by rw [hops.out]; rfl) (by kernel_rfl) rfl) ?_
      refine QP.skip (wantedq (j := 16) (d := 47) (want := true) (b := false) rfl (by rw [hops.out]; rfl) (by kernel_rfl) rfl) ?_
      refine QP.skip (wantedq (j := 16) (d := 47) (want := true) (b := false) rfl (by rw [hops.out]; rfl) (by kernel_rfl) rfl) ?_
      refine QP.val (.bool false) (wantedq (j := 13) (d := 44) (want := false) (b := false) rfl (by rw [hops.out]; rfl) (by kernel_rfl) rfl) (fun w hC => runq_pick (c := false) rfl (by kernel_rfl) (by kernel_rfl)) ?_
      refine QP.val (.bool false) (by rfl) (fun w hC => runq_pick (c := false) rfl (by kernel_rfl) (by kernel_rfl)) ?_
      refine QP.val (.bool false) (by rfl) (fun w hC => runq_move rfl (by kernel_rfl)) ?_
      refine QP.val (.int .u8 3) (wantedq (j := 23) (d := 54) (want := false) (b := false) rfl (by rw [hops.out]; rfl) (by kernel_rfl) rfl) (fun w hC => runq_move rfl (by kernel_rfl)) ?_
      refine QP.val (.bool true) (wantedq (j := 23) (d := 54) (want := false) (b := false) rfl (by rw [hops.out]; rfl) (by kernel_rfl) rfl) (fun w hC => runq_neq (k := .u8) (p := 3) (q := 0) rfl (by kernel_rfl) (by kernel_rfl) (by rfl)) ?_
      refine QP.val (.bool true) (wantedq (j := 23) (d := 54) (want := false) (b := false) rfl (by rw [hops.out]; rfl) (by kernel_rfl) rfl) (fun w hC => runq_move rfl (by kernel_rfl)) ?_
      refine QP.val (.agg #[.int .u8 (x0.toNat : Int), .int .u16 0, .int .u16 0, .int .u16 0, .slice aw 0 cw, .slice ab 0 cb]) (wantedq (j := 26) (d := 57) (want := true) (b := true) rfl (by rw [hops.out]; rfl) (by kernel_rfl) rfl) (fun w hC => runq_load_row (t := 26) (g := w1.heap.size) (fr := (0, 0)) rfl (by kernel_rfl) (HR3 w hC) Try.underlying26 rfl (by kernel_rfl)) ?_
      refine QP.val (.slice (some ⟨b, off, none⟩) n c) (wantedq (j := 26) (d := 57) (want := true) (b := true) rfl (by rw [hops.out]; rfl) (by kernel_rfl) rfl) (fun w hC => runq_move rfl (by kernel_rfl)) ?_
      refine QP.val (.pointer (some ⟨b, off, none⟩)) (wantedq (j := 26) (d := 57) (want := true) (b := true) rfl (by rw [hops.out]; rfl) (by kernel_rfl) rfl) (fun w hC => runq_indexAddr (b := b) (off := off) (n := n) (c := c) (i := 0) (k := .i64) rfl Try.underlying27 (fun _ => by kernel_rfl) (by kernel_rfl) (by kernel_rfl) hn0) ?_
      refine QP.val (.int .u8 (x0.toNat : Int)) (wantedq (j := 26) (d := 57) (want := true) (b := true) rfl (by rw [hops.out]; rfl) (by kernel_rfl) rfl) (fun w hC => runq_load_int (p := ⟨b, off, none⟩) rfl (by kernel_rfl) (HBc w hC) Try.underlying5) ?_
      refine QP.val (.agg #[.int .u8 (x0.toNat : Int), .int .u16 0, .int .u16 0, .int .u16 0, .slice none 0 0, .slice none 0 0]) (wantedq (j := 26) (d := 57) (want := true) (b := true) rfl (by rw [hops.out]; rfl) (by kernel_rfl) rfl) (fun w hC => by kernel_rfl) ?_
      refine QP.call 15 #[.agg #[.int .u8 (x0.toNat : Int), .int .u16 0, .int .u16 0, .int .u16 0, .slice aw 0 cw, .slice ab 0 cb], .agg #[.int .u8 (x0.toNat : Int), .int .u16 0, .int .u16 0, .int .u16 0, .slice none 0 0, .slice none 0 0]] (.bool true) (wantedq (j := 26) (d := 57) (want := true) (b := true) rfl (by rw [hops.out]; rfl) (by kernel_rfl) rfl) (fun w hC => (congrArg (fun s => Sem.run Try.prog s w) (by kernel_rfl)).trans (enters_same #[.agg #[.int .u8 (x0.toNat : Int), .int .u16 0, .int .u16 0, .int .u16 0, .slice aw 0 cw, .slice ab 0 cb], .agg #[.int .u8 (x0.toNat : Int), .int .u16 0, .int .u16 0, .int .u16 0, .slice none 0 0, .slice none 0 0]] w)) (fun w hC => HSM w hC) ?_
      refine QP.val (.bool false) (wantedq (j := 26) (d := 57) (want := true) (b := true) rfl (by rw [hops.out]; rfl) (by kernel_rfl) rfl) (fun w hC => runq_not (c := true) rfl (by kernel_rfl) rfl) ?_
      refine QP.val (.bool false) (wantedq (j := 23) (d := 54) (want := false) (b := false) rfl (by rw [hops.out]; rfl) (by kernel_rfl) rfl) (fun w hC => runq_pick (c := true) rfl (by kernel_rfl) (by kernel_rfl)) ?_
      refine QP.val (.bool false) (by rfl) (fun w hC => runq_pick (c := false) rfl (by kernel_rfl) (by kernel_rfl)) ?_
      refine QP.val (.bool false) (by rfl) (fun w hC => runq_move rfl (by kernel_rfl)) ?_
      refine QP.val (.int .u8 3) (wantedq (j := 36) (d := 67) (want := false) (b := false) rfl (by rw [hops.out]; rfl) (by kernel_rfl) rfl) (fun w hC => runq_move rfl (by kernel_rfl)) ?_
      refine QP.val (.bool true) (wantedq (j := 36) (d := 67) (want := false) (b := false) rfl (by rw [hops.out]; rfl) (by kernel_rfl) rfl) (fun w hC => runq_neq (k := .u8) (p := 3) (q := 0) rfl (by kernel_rfl) (by kernel_rfl) (by rfl)) ?_
      refine QP.val (.bool true) (wantedq (j := 36) (d := 67) (want := false) (b := false) rfl (by rw [hops.out]; rfl) (by kernel_rfl) rfl) (fun w hC => runq_move rfl (by kernel_rfl)) ?_
      refine QP.val (.int .u8 3) (wantedq (j := 39) (d := 70) (want := true) (b := true) rfl (by rw [hops.out]; rfl) (by kernel_rfl) rfl) (fun w hC => runq_move rfl (by kernel_rfl)) ?_
      refine QP.val (.bool true) (wantedq (j := 39) (d := 70) (want := true) (b := true) rfl (by rw [hops.out]; rfl) (by kernel_rfl) rfl) (fun w hC => runq_neq (k := .u8) (p := 3) (q := 1) rfl (by kernel_rfl) (by kernel_rfl) (by rfl)) ?_
      refine QP.val (.bool true) (wantedq (j := 36) (d := 67) (want := false) (b := false) rfl (by rw [hops.out]; rfl) (by kernel_rfl) rfl) (fun w hC => runq_pick (c := true) rfl (by kernel_rfl) (by kernel_rfl)) ?_
      refine QP.val (.bool true) (wantedq (j := 36) (d := 67) (want := false) (b := false) rfl (by rw [hops.out]; rfl) (by kernel_rfl) rfl) (fun w hC => runq_move rfl (by kernel_rfl)) ?_
      refine QP.val (.int .u8 3) (wantedq (j := 43) (d := 74) (want := true) (b := true) rfl (by rw [hops.out]; rfl) (by kernel_rfl) rfl) (fun w hC => runq_move rfl (by kernel_rfl)) ?_
      refine QP.val (.bool false) (wantedq (j := 43) (d := 74) (want := true) (b := true) rfl (by rw [hops.out]; rfl) (by kernel_rfl) rfl) (fun w hC => runq_neq (k := .u8) (p := 3) (q := 3) rfl (by kernel_rfl) (by kernel_rfl) (by rfl)) ?_
      refine QP.val (.bool false) (wantedq (j := 36) (d := 67) (want := false) (b := false) rfl (by rw [hops.out]; rfl) (by kernel_rfl) rfl) (fun w hC => runq_pick (c := true) rfl (by kernel_rfl) (by kernel_rfl)) ?_
      refine QP.val (.bool false) (by rfl) (fun w hC => runq_pick (c := false) rfl (by kernel_rfl) (by kernel_rfl)) ?_
      refine QP.nil (hQ.out _ fun w3 hC => ?_)
      simp only [Act.put, List.setIfInBounds_toArray, List.set_cons_succ, List.set_cons_zero]
      clear hops hQ
      go_wp2_with fail
      have HB3 := HBW.out.trans (hC.mono HBW.out.size)
      clear hC HBc HR3 HR5 HSM
      go_loopw [7, 79] (fun s i wr => ∃ k : Nat, k ≤ 256 ∧ i = .int .i64 k ∧ s = .int .i64 (cntK k : Int) ∧ Below w.heap.size w wr) (fun _ i _ => 256 - (intOf i).toNat)
      case atStart => exact ⟨0, by omega, rfl, rfl, HB3⟩
      case round =>
        obtain ⟨k, hk, rfl, rfl, hbr⟩ := hrel
        by_cases hlt : k < 256
        · have ht : decide ((k : Int) < 256) = true := by simp; omega
          have hSr := (HS.out.below hbr (Nat.le_refl _)).more hbr.size
          have HBR := Lib.hid hbr
          obtain ⟨y, hy⟩ : ∃ y : UInt8, (k : Int) = (y.toNat : Int) := ⟨UInt8.ofNat k, by simp; omega⟩
          have hcl := cntK_le k
          have HY := Lib.hid hy
          clear hy hbr
          go_wp2_with (at_builtin; go_loud (refine wpList_append_sl (f := b8) b8_one rfl (.tmp 82) (.tmp 83) 27 rfl wr.heap.size 5 i0 (.int .u8 0) 1 Try.underlying27 hi hz0 hz1 hz2' rfl (.slice (some ⟨wr.heap.size, 0, none⟩) 0 0) 0 [] rfl (World.ownsRow_made wr #[] 0 (Nat.le_refl _) (by unfold maxLen; omega) rfl) (some ⟨b, off, none⟩) n c rfl (hSr.alloc (Nat.le_refl _) _) (by unfold maxLen; omega) (by omega) (by simp) ?_; intro v4 w4 hown4 hgrow4; simp only [Nat.zero_add, List.nil_append] at hown4; obtain ⟨g, cap, cur, hv4, hg1, hg2, hgc, hc0, -, hSw⟩ := own_swap hown4; subst hv4; have HB4 := Lib.hid (((Below.refl wr.heap.size wr).alloc (Nat.le_refl _) (.cells #[] 5)).grown hgrow4 (by simp) (by simp [Value.ownBlock])); have hcell4 := (cell_of_row _ _ 0 _ _ _ hgc).trans hc0; have hfz4 := frozen_of_row _ _ 0 _ _ hgc; have HSw := Lib.hid (hSw y k HY.out); clear hown4 hgrow4 hSw hgc hc0))
          have HB5 := Lib.hid (HBR.out.trans ((HB4.out.setCell (p := ⟨g, 0, none⟩) hg1 (.int .u8 (k : Int))).mono HBR.out.size))
          refine (Look_any _ _ _ (y :: r) _ (HSw.out.more (by rw [World.size_setCell]; exact Nat.le_refl _))).mono ?_
          rintro e w5 ⟨aw5, cw5, ab5, cb5, rfl, -, hb5, -⟩
          have HB6 := Lib.hid (HB5.out.trans (hb5.mono HB5.out.size))
          obtain ⟨hcode, h256⟩ := HC.out y r
          have heq : y = x0 → (lookN (y :: r)).2 = 3 := by rintro rfl; rw [HLK.out]
          clear hb5 HB5 HSw hfz4 hcell4 HB4 hSr
          generalize lookN (y :: r) = lk5 at *
          obtain ⟨⟨f5, a5, m5, t5, ws5, bs5⟩, ky⟩ := lk5
          dsimp only at hcode h256 heq
          have hyk : y.toNat = k := by have := HY.out; omega
          have hc5 : w5.cell? ⟨b, off, none⟩ = some (b8 x0) := (HB6.out.cell (p := ⟨b, off, none⟩) hbk).trans hcell
          have hc6 : ∀ o : Obj, (w5.alloc o).cell? ⟨b, off, none⟩ = some (b8 x0) := fun o => (World.cell?_alloc_lt w5 o _ (Nat.lt_of_lt_of_le hbk HB6.out.size)).trans hc5
          have HB7 := Lib.hid (fun o => HB6.out.alloc HB6.out.size o)
          have hz6 := HB6.out.size
          by_cases hkn : known k = true
          · have t1 : ((ky : Int) != 1) = true := by
              have : ¬ ky = 1 := fun h => by have := hcode.1 h; rw [hyk, hkn] at this; cases this
              simp; omega
            have HN := Lib.hid (cntK_on hkn)
            generalize hN : cntK k = N at *
            by_cases hx : k = x0.toNat
            · have t2 : ((k : Int) == (x0.toNat : Int)) = true := by simp; omega
              have t3 : ((ky : Int) != 3) = false := by
                have := heq (UInt8.toNat_inj.1 (by omega))
                simp; omega
              clear hcode heq hkn hyk h256
              go_wp2_with fail
              go_roundw
              case rel => exact ⟨k + 1, by omega, by go_num, by rw [HN.out]; go_num, HB7.out _⟩
              case measure => simp [intOf]; omega
            · have t2 : ((k : Int) == (x0.toNat : Int)) = false := by simp; omega
              clear hcode heq hkn hyk h256
              go_wp2_with fail
              go_roundw
              case rel => exact ⟨k + 1, by omega, by go_num, by rw [HN.out]; go_num, HB7.out _⟩
              case measure => simp [intOf]; omega
          · have hkn : known k = false := by simpa using hkn
            have t1 : ((ky : Int) != 1) = false := by
              have := hcode.2 (by rw [hyk, hkn])
              simp; omega
            have HN := Lib.hid (cntK_off hkn)
            generalize hN : cntK k = N at *
            by_cases hx : k = x0.toNat
            · have t2 : ((k : Int) == (x0.toNat : Int)) = true := by simp; omega
              have t3 : ((ky : Int) != 3) = false := by
                have := heq (UInt8.toNat_inj.1 (by omega))
                simp; omega
              clear hcode heq hkn hyk h256
              go_wp2_with fail
              go_roundw
              case rel => exact ⟨k + 1, by omega, by go_num, by rw [HN.out], HB7.out _⟩
              case measure => simp [intOf]; omega
            · have t2 : ((k : Int) == (x0.toNat : Int)) = false := by simp; omega
              clear hcode heq hkn hyk h256
              go_wp2_with fail
              go_roundw
              case rel => exact ⟨k + 1, by omega, by go_num, by rw [HN.out], HB7.out _⟩
              case measure => simp [intOf]; omega
        · obtain rfl : k = 256 := by omega
          have ht : decide (((256 : Nat) : Int) < 256) = false := by decide
          rw [cntK_all]
          have HBR := Lib.hid hbr
          clear hbr
          go_wp2_with fail
          refine (awake_any _).mono ?_
          rintro e w5 ⟨rfl, hb5⟩
          go_wp2_with fail
          go_ret
          exact Says.mk (HBR.out.trans (hb5.mono HBR.out.size))
end Go.Proofs.Ytpjimlajaplhfaa.AskW
