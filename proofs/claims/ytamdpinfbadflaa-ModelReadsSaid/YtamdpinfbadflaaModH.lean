/- ModH: what was ModG, ModH. -/
import Derived.Test.YtamdpinfbadflaaModF
import Derived.Test.YtamdpinfbadflaaReplyEcho
/- What is wrong with a request; whether a space and a memory are right together. -/
open Go.RowKit
namespace Go.Proofs.Ytamdpinfbadflaa.ModW
open AskM ReplyM ModM Mem AskW

theorem row_cell {W W' : World} {g : Nat} {c : Array Value} {t : TypeId} (h : W.heap[g]? = some (.cells c t (0, 0))) (hb : Below W.heap.size W W') : W'.heap[g]? = some (.cells c t (0, 0)) :=
  (hb.block g (Array.getElem?_eq_some_iff.1 h).1).trans h
/-- The server's block, just laid. -/
theorem SrvAt.new {w W : World} {s : Sp} {m : Me} {p q : Pl} (hb : Below w.heap.size w W) (hS : SpAt w w.heap.size s p) (hM : MeAt w w.heap.size m q) : SrvAt (W.alloc (.cells (srvC s m p q) 67)) W.heap.size s m p q :=
  ⟨heap_alloc_new W _, (hS.on hb).on ((Below.refl _ _).alloc (Nat.le_refl _) _), (hM.on hb).on ((Below.refl _ _).alloc (Nat.le_refl _) _)⟩
set_option maxRecDepth 100000 in
set_option maxHeartbeats 2000000 in
theorem Check_any (s : Sp) (p : Pl) (a : Req) (aw : Option Addr) (cw : Nat) (ab : Option Addr) (cb : Nat) (w : World) (hS : SpAt w w.heap.size s p) (hw : a.words.length ≤ 65535) (hbl : a.bits.length ≤ 65535) :
    Calls Try.prog 12 #[spV s p, askV a aw cw ab cb] w (Says (.int .u8 (checkN s a : Int)) w) := by
  have HR := Lib.hid (fun W => Right_any a aw cw ab cb W (by omega) (by omega))
  have HA := Lib.hid (fun W g (h : SrvAt W g s emptyM p nilP) => allows_any s emptyM p nilP g a aw cw ab cb W h hw hbl)
  have HL := Lib.hid (fun W => lay_any s emptyM p nilP W)
  have HN := Lib.hid (fun W (h : Below w.heap.size w W) => SrvAt.new (m := emptyM) (q := nilP) h hS MeAt.nil)
  have HV : Hid (checkN s a = if rightN a = false then 3 else if allowsN s a = false then 2 else 0) := Lib.hid rfl
  generalize rightN a = r at *
  generalize allowsN s a = v at *
  obtain ⟨ca, cc, ia, ic, ha, hc, wa, wc⟩ := p
  obtain ⟨fn, at_, many, to_, words, bits⟩ := a
  simp only [emptyM, nilP] at HL HA HN
  have hb0 := below_two w (.cells #[.slice ca s.coils.length cc, .slice ia s.inputs.length ic, .slice ha s.holding.length hc, .slice wa s.words.length wc] 24) (.cells #[b8 fn, b16 at_, b16 many, b16 to_, .slice aw words.length cw, .slice ab bits.length cb] 31)
  have hr0 : ((w.alloc (.cells #[.slice ca s.coils.length cc, .slice ia s.inputs.length ic, .slice ha s.holding.length hc, .slice wa s.words.length wc] 24)).alloc (.cells #[b8 fn, b16 at_, b16 many, b16 to_, .slice aw words.length cw, .slice ab bits.length cb] 31)).heap[w.heap.size]? = some (.cells #[.slice ca s.coils.length cc, .slice ia s.inputs.length ic, .slice ha s.holding.length hc, .slice wa s.words.length wc] 24 (0, 0)) := (Below.heap_alloc _ _ _ (by simp)).trans (heap_alloc_new w _)
  have hr1 := at_one w (.cells #[.slice ca s.coils.length cc, .slice ia s.inputs.length ic, .slice ha s.holding.length hc, .slice wa s.words.length wc] 24) (.cells #[b8 fn, b16 at_, b16 many, b16 to_, .slice aw words.length cw, .slice ab bits.length cb] 31)
  clear hS
  go_enter Try.func12, Try.ntmps12
  go_wp2_with fail
  generalize (w.alloc (.cells #[.slice ca s.coils.length cc, .slice ia s.inputs.length ic, .slice ha s.holding.length hc, .slice wa s.words.length wc] 24)).alloc (.cells #[b8 fn, b16 at_, b16 many, b16 to_, .slice aw words.length cw, .slice ab bits.length cb] 31) = W0 at *
  have HB0 := Lib.hid hb0
  have HRW0 := Lib.hid (And.intro hr0 hr1)
  clear hb0 hr0 hr1
  refine (HR.out W0).mono ?_
  rintro e w1 ⟨rfl, hb⟩
  have HB1 := Lib.hid (HB0.out.trans (hb.mono HB0.out.size))
  have HRW1 := Lib.hid (And.intro (row_cell HRW0.out.1 hb) (row_cell HRW0.out.2 hb))
  clear hb HRW0
  cases r
  case false =>
    go_wp2_with fail
    go_ret
    rw [HV.out]
    exact Says.mk HB1.out
  have q0 : w1.cell? ⟨w.heap.size, 0, none⟩ = some (.slice ca s.coils.length cc) := cell_of_row _ _ _ _ _ _ HRW1.out.1
  have q1 : w1.cell? ⟨w.heap.size, 1, none⟩ = some (.slice ia s.inputs.length ic) := cell_of_row _ _ _ _ _ _ HRW1.out.1
  have q2 : w1.cell? ⟨w.heap.size, 2, none⟩ = some (.slice ha s.holding.length hc) := cell_of_row _ _ _ _ _ _ HRW1.out.1
  have q3 : w1.cell? ⟨w.heap.size, 3, none⟩ = some (.slice wa s.words.length wc) := cell_of_row _ _ _ _ _ _ HRW1.out.1
  go_wp2_with fail
  refine (HL.out w1).mono ?_
  rintro e w2 ⟨rfl, hb⟩
  have HB2 := Lib.hid (HB1.out.trans (hb.mono HB1.out.size))
  have HRW2 := Lib.hid (row_cell HRW1.out.2 hb)
  clear hb q0 q1 q2 q3
  have HB3 : Hid (Below w.heap.size w (w2.alloc (.cells #[.slice ca s.coils.length cc, .slice none 0 0, .slice ia s.inputs.length ic, .slice none 0 0, .slice ha s.holding.length hc, .slice none 0 0, .slice wa s.words.length wc, .slice none 0 0] 67))) := Lib.hid (HB2.out.alloc HB2.out.size _)
  have HN2 : Hid (SrvAt (w2.alloc (.cells #[.slice ca s.coils.length cc, .slice none 0 0, .slice ia s.inputs.length ic, .slice none 0 0, .slice ha s.holding.length hc, .slice none 0 0, .slice wa s.words.length wc, .slice none 0 0] 67)) w2.heap.size s ⟨[], [], [], []⟩ ⟨ca, cc, ia, ic, ha, hc, wa, wc⟩ ⟨none, 0, none, 0, none, 0, none, 0⟩) := Lib.hid (HN.out w2 HB2.out)
  have HRW3 : Hid ((w2.alloc (.cells #[.slice ca s.coils.length cc, .slice none 0 0, .slice ia s.inputs.length ic, .slice none 0 0, .slice ha s.holding.length hc, .slice none 0 0, .slice wa s.words.length wc, .slice none 0 0] 67)).heap[w.heap.size + 1]? = some (.cells #[b8 fn, b16 at_, b16 many, b16 to_, .slice aw words.length cw, .slice ab bits.length cb] 31 (0, 0))) := Lib.hid (row_cell HRW2.out ((Below.refl w2.heap.size w2).alloc (Nat.le_refl _) _))
  have HA3 := Lib.hid (HA.out (w2.alloc (.cells #[.slice ca s.coils.length cc, .slice none 0 0, .slice ia s.inputs.length ic, .slice none 0 0, .slice ha s.holding.length hc, .slice none 0 0, .slice wa s.words.length wc, .slice none 0 0] 67)) w2.heap.size HN2.out)
  clear HN HA HL HR HN2
  have z0 : (w2.alloc (.cells #[.slice ca s.coils.length cc, .slice none 0 0, .slice ia s.inputs.length ic, .slice none 0 0, .slice ha s.holding.length hc, .slice none 0 0, .slice wa s.words.length wc, .slice none 0 0] 67)).cell? ⟨w.heap.size + 1, 0, none⟩ = some (b8 fn) := cell_of_row _ _ _ _ _ _ HRW3.out
  have z1 : (w2.alloc (.cells #[.slice ca s.coils.length cc, .slice none 0 0, .slice ia s.inputs.length ic, .slice none 0 0, .slice ha s.holding.length hc, .slice none 0 0, .slice wa s.words.length wc, .slice none 0 0] 67)).cell? ⟨w.heap.size + 1, 1, none⟩ = some (b16 at_) := cell_of_row _ _ _ _ _ _ HRW3.out
  have z2 : (w2.alloc (.cells #[.slice ca s.coils.length cc, .slice none 0 0, .slice ia s.inputs.length ic, .slice none 0 0, .slice ha s.holding.length hc, .slice none 0 0, .slice wa s.words.length wc, .slice none 0 0] 67)).cell? ⟨w.heap.size + 1, 2, none⟩ = some (b16 many) := cell_of_row _ _ _ _ _ _ HRW3.out
  have z3 : (w2.alloc (.cells #[.slice ca s.coils.length cc, .slice none 0 0, .slice ia s.inputs.length ic, .slice none 0 0, .slice ha s.holding.length hc, .slice none 0 0, .slice wa s.words.length wc, .slice none 0 0] 67)).cell? ⟨w.heap.size + 1, 3, none⟩ = some (b16 to_) := cell_of_row _ _ _ _ _ _ HRW3.out
  have z4 : (w2.alloc (.cells #[.slice ca s.coils.length cc, .slice none 0 0, .slice ia s.inputs.length ic, .slice none 0 0, .slice ha s.holding.length hc, .slice none 0 0, .slice wa s.words.length wc, .slice none 0 0] 67)).cell? ⟨w.heap.size + 1, 4, none⟩ = some (.slice aw words.length cw) := cell_of_row _ _ _ _ _ _ HRW3.out
  have z5 : (w2.alloc (.cells #[.slice ca s.coils.length cc, .slice none 0 0, .slice ia s.inputs.length ic, .slice none 0 0, .slice ha s.holding.length hc, .slice none 0 0, .slice wa s.words.length wc, .slice none 0 0] 67)).cell? ⟨w.heap.size + 1, 5, none⟩ = some (.slice ab bits.length cb) := cell_of_row _ _ _ _ _ _ HRW3.out
  go_wp2_with fail
  refine HA3.out.mono ?_
  rintro e w4 ⟨rfl, hb⟩
  have HB4 := Lib.hid (HB3.out.trans (hb.mono HB3.out.size))
  clear hb z0 z1 z2 z3 z4 z5 HRW3 HB3 HA3
  cases v
  · go_wp2_with fail
    go_ret
    rw [HV.out]
    exact Says.mk HB4.out
  · go_wp2_with fail
    go_ret
    rw [HV.out]
    exact Says.mk HB4.out
set_option maxRecDepth 100000 in
set_option maxHeartbeats 2000000 in
theorem MRight_any (s : Sp) (m : Me) (p q : Pl) (w : World) (hS : SpAt w w.heap.size s p) (hM : MeAt w w.heap.size m q) (hm : MeSmall m) :
    Calls Try.prog 14 #[spV s p, meV m q] w (Says (.bool (mrightN s m)) w) := by
  have HL := Lib.hid (fun W => lay_any s m p q W)
  have HN := Lib.hid (fun W (h : Below w.heap.size w W) => SrvAt.new h hS hM)
  have HC1 := Lib.hid (fun W g (h : SrvAt W g s m p q) => right_bits g 0 _ _ _ _ _ _ _ W h.lt hm.coils (cell_of_row _ _ _ _ _ _ h.row) (cell_of_row _ _ _ _ _ _ h.row) h.sp.coils)
  have HC2 := Lib.hid (fun W g (h : SrvAt W g s m p q) => right_bits g 2 _ _ _ _ _ _ _ W h.lt hm.inputs (cell_of_row _ _ _ _ _ _ h.row) (cell_of_row _ _ _ _ _ _ h.row) h.sp.inputs)
  have HC3 := Lib.hid (fun W g (h : SrvAt W g s m p q) => right_regs g 4 _ _ _ _ _ _ _ W h.lt hm.holding (cell_of_row _ _ _ _ _ _ h.row) (cell_of_row _ _ _ _ _ _ h.row) h.sp.holding)
  have HC4 := Lib.hid (fun W g (h : SrvAt W g s m p q) => right_regs g 6 _ _ _ _ _ _ _ W h.lt hm.words (cell_of_row _ _ _ _ _ _ h.row) (cell_of_row _ _ _ _ _ _ h.row) h.sp.words)
  have HC5 := Lib.hid (fun W g (h : SrvAt W g s m p q) => ContainsFunc_any 32 #[] writtenA enters_written _ _ _ _ W h.sp.inputs (written_any W))
  have HC6 := Lib.hid (fun W g (h : SrvAt W g s m p q) => ContainsFunc_any 32 #[] writtenA enters_written _ _ _ _ W h.sp.words (written_any W))
  have HV : Hid (mrightN s m = (rightFrom m.coils.length 0 s.coils && rightFrom m.inputs.length 0 s.inputs && rightFrom m.holding.length 0 s.holding && rightFrom m.words.length 0 s.words && !s.inputs.any writtenA && !s.words.any writtenA)) := Lib.hid rfl
  generalize rightFrom m.coils.length 0 s.coils = r1 at *
  generalize rightFrom m.inputs.length 0 s.inputs = r2 at *
  generalize rightFrom m.holding.length 0 s.holding = r3 at *
  generalize rightFrom m.words.length 0 s.words = r4 at *
  generalize s.inputs.any writtenA = r5 at *
  generalize s.words.any writtenA = r6 at *
  obtain ⟨ca, cc, ia, ic, ha, hc, wa, wc⟩ := p
  obtain ⟨da, dc, ja, jc, ka, kc, xa, xc⟩ := q
  simp only at HC5 HC6
  have hb0 := below_two w (.cells #[.slice ca s.coils.length cc, .slice ia s.inputs.length ic, .slice ha s.holding.length hc, .slice wa s.words.length wc] 24) (.cells #[.slice da m.coils.length dc, .slice ja m.inputs.length jc, .slice ka m.holding.length kc, .slice xa m.words.length xc] 28)
  have hr0 : ((w.alloc (.cells #[.slice ca s.coils.length cc, .slice ia s.inputs.length ic, .slice ha s.holding.length hc, .slice wa s.words.length wc] 24)).alloc (.cells #[.slice da m.coils.length dc, .slice ja m.inputs.length jc, .slice ka m.holding.length kc, .slice xa m.words.length xc] 28)).heap[w.heap.size]? = some (.cells #[.slice ca s.coils.length cc, .slice ia s.inputs.length ic, .slice ha s.holding.length hc, .slice wa s.words.length wc] 24 (0, 0)) := (Below.heap_alloc _ _ _ (by simp)).trans (heap_alloc_new w _)
  clear hS hM hm
  go_enter Try.func14, Try.ntmps14
  go_wp2_with fail
  refine (HL.out _).mono ?_
  rintro e w2 ⟨rfl, hb⟩
  have HB2 := Lib.hid (hb0.trans (hb.mono hb0.size))
  have HRW2 := Lib.hid (row_cell hr0 hb)
  clear hb hb0 hr0
  have HB3 : Hid (Below w.heap.size w (w2.alloc (.cells #[.slice ca s.coils.length cc, .slice da m.coils.length dc, .slice ia s.inputs.length ic, .slice ja m.inputs.length jc, .slice ha s.holding.length hc, .slice ka m.holding.length kc, .slice wa s.words.length wc, .slice xa m.words.length xc] 67))) := Lib.hid (HB2.out.alloc HB2.out.size _)
  have HN2 : Hid (SrvAt (w2.alloc (.cells #[.slice ca s.coils.length cc, .slice da m.coils.length dc, .slice ia s.inputs.length ic, .slice ja m.inputs.length jc, .slice ha s.holding.length hc, .slice ka m.holding.length kc, .slice wa s.words.length wc, .slice xa m.words.length xc] 67)) w2.heap.size s m ⟨ca, cc, ia, ic, ha, hc, wa, wc⟩ ⟨da, dc, ja, jc, ka, kc, xa, xc⟩) := Lib.hid (HN.out w2 HB2.out)
  have HRW3 : Hid ((w2.alloc (.cells #[.slice ca s.coils.length cc, .slice da m.coils.length dc, .slice ia s.inputs.length ic, .slice ja m.inputs.length jc, .slice ha s.holding.length hc, .slice ka m.holding.length kc, .slice wa s.words.length wc, .slice xa m.words.length xc] 67)).heap[w.heap.size]? = some (.cells #[.slice ca s.coils.length cc, .slice ia s.inputs.length ic, .slice ha s.holding.length hc, .slice wa s.words.length wc] 24 (0, 0))) := Lib.hid (row_cell HRW2.out ((Below.refl w2.heap.size w2).alloc (Nat.le_refl _) _))
  clear HN HL HRW2
  go_wp2_with fail
  generalize (w2.alloc (.cells #[.slice ca s.coils.length cc, .slice da m.coils.length dc, .slice ia s.inputs.length ic, .slice ja m.inputs.length jc, .slice ha s.holding.length hc, .slice ka m.holding.length kc, .slice wa s.words.length wc, .slice xa m.words.length xc] 67)) = w3 at *
  generalize w2.heap.size = g at *
  clear HB2
  refine (HC1.out w3 g HN2.out).mono ?_
  rintro e w4 ⟨rfl, hb⟩
  have K4 := Lib.hid (And.intro (HB3.out.trans (hb.mono HB3.out.size)) (And.intro (HN2.out.on hb) (row_cell HRW3.out hb)))
  clear hb HB3 HN2 HRW3 HC1
  cases r1
  case false =>
    go_wp2_with fail
    go_ret
    exact says_bool (by rw [HV.out]; rfl) K4.out.1
  go_wp2_with fail
  refine (HC2.out w4 g K4.out.2.1).mono ?_
  rintro e w5 ⟨rfl, hb⟩
  have K5 := Lib.hid (And.intro (K4.out.1.trans (hb.mono K4.out.1.size)) (And.intro (K4.out.2.1.on hb) (row_cell K4.out.2.2 hb)))
  clear hb K4 HC2
  cases r2
  case false =>
    go_wp2_with fail
    go_ret
    exact says_bool (by rw [HV.out]; rfl) K5.out.1
  go_wp2_with fail
  refine (HC3.out w5 g K5.out.2.1).mono ?_
  rintro e w6 ⟨rfl, hb⟩
  have K6 := Lib.hid (And.intro (K5.out.1.trans (hb.mono K5.out.1.size)) (And.intro (K5.out.2.1.on hb) (row_cell K5.out.2.2 hb)))
  clear hb K5 HC3
  cases r3
  case false =>
    go_wp2_with fail
    go_ret
    exact says_bool (by rw [HV.out]; rfl) K6.out.1
  go_wp2_with fail
  refine (HC4.out w6 g K6.out.2.1).mono ?_
  rintro e w7 ⟨rfl, hb⟩
  have K7 := Lib.hid (And.intro (K6.out.1.trans (hb.mono K6.out.1.size)) (And.intro (K6.out.2.1.on hb) (row_cell K6.out.2.2 hb)))
  clear hb K6 HC4
  cases r4
  case false =>
    go_wp2_with fail
    go_ret
    exact says_bool (by rw [HV.out]; rfl) K7.out.1
  have q1 : w7.cell? ⟨w.heap.size, 1, none⟩ = some (.slice ia s.inputs.length ic) := cell_of_row _ _ _ _ _ _ K7.out.2.2
  go_wp2_with fail
  refine (HC5.out w7 g K7.out.2.1).mono ?_
  rintro e w8 ⟨rfl, hb⟩
  have K8 := Lib.hid (And.intro (K7.out.1.trans (hb.mono K7.out.1.size)) (And.intro (K7.out.2.1.on hb) (row_cell K7.out.2.2 hb)))
  clear hb K7 HC5 q1
  cases r5
  case true =>
    go_wp2_with fail
    go_ret
    exact says_bool (by rw [HV.out]; rfl) K8.out.1
  have q3 : w8.cell? ⟨w.heap.size, 3, none⟩ = some (.slice wa s.words.length wc) := cell_of_row _ _ _ _ _ _ K8.out.2.2
  go_wp2_with fail
  refine (HC6.out w8 g K8.out.2.1).mono ?_
  rintro e w9 ⟨rfl, hb⟩
  have K9 := Lib.hid (K8.out.1.trans (hb.mono K8.out.1.size))
  clear hb K8 HC6 q3
  go_wp2_with fail
  go_ret
  exact says_bool (by rw [HV.out]; cases r6 <;> rfl) K9.out
end Go.Proofs.Ytamdpinfbadflaa.ModW

/- A memory cloned: four rows of the call's own, each in a block of its own. -/
open Go.RowKit
namespace Go.Proofs.Ytamdpinfbadflaa.ModW
open AskM ReplyM ModM Mem AskW ReplyW

/-- The call makes a row that holds l, in a block of its own, or none. -/
def Own {α : Type} (f : α → Value) (T : TypeId) (l : List α) (w : World) (e : Ending) (w' : World) : Prop :=
  ∃ a c, e = .returned (.slice a l.length c) ∧ w'.ownsRow w.heap.size T 1 (.slice a l.length c) l.length (l.map f) ∧ Below w.heap.size w w'
theorem Own.mk {α : Type} {f : α → Value} {T : TypeId} {l : List α} {w w' : World} {v : Value} {n : Nat} (h : w'.ownsRow w.heap.size T 1 v n (l.map f)) (hb : Below w.heap.size w w') : Own f T l w (.returned v) w' := by
  obtain ⟨a, c, rfl, hs⟩ := Sl.of_own h
  obtain rfl := hs.len
  exact ⟨a, c, rfl, h, hb⟩
theorem own_nil' {w : World} {base : Nat} {T : TypeId} : w.ownsRow base T 1 (.slice none 0 0) 0 [] := ⟨rfl, .inl ⟨rfl, rfl⟩⟩

set_option maxRecDepth 100000 in
theorem CloneB_own (a : Option Addr) (n c : Nat) (l : List Bool) (w : World) (hl : Sl Value.bool w w.heap.size a n c l) (hn : n ≤ 1000000) :
    Calls Try.prog 42 #[.slice a n c] w (Own Value.bool 4 l w) := by
  cases a with
  | none =>
    obtain ⟨rfl, rfl, rfl⟩ := sl_nil hl
    have hq : (binOp .eql 25 (.slice none 0 0) (.slice none 0 0)).run Try.prog w = .ok (.bool true) w := by kernel_rfl
    go_enter Try.func42, Try.ntmps42
    go_wp2_with fail
    go_ret
    exact Own.mk own_nil' (Below.refl _ _)
  | some x =>
    obtain ⟨iB, hB0, hB1, hB2, hB3⟩ := info_parts infoB
    have hq : (binOp .eql 25 (.slice (some x) n c) (.slice none 0 0)).run Try.prog w = .ok (.bool false) w := by kernel_rfl
    have HL := Lib.hid hl
    clear hl
    go_enter Try.func42, Try.ntmps42
    go_wp2_with (at_builtin; go_loud (refine wpList_append_sl (f := Value.bool) bool_one rfl (.tmp 5) (.tmp 6) 25 rfl w.heap.size 4 iB (.bool false) 1 Try.underlying25 hB0 hB1 hB2 hB3 rfl (.slice (some ⟨w.heap.size, 0, none⟩) 0 0) 0 [] rfl (World.ownsRow_made w #[] 0 (Nat.le_refl _) (by unfold maxLen; omega) rfl) (some x) n c rfl (HL.out.alloc (Nat.le_refl _) _) (by unfold maxLen; omega) (by omega) (by simp) ?_; intro v4 w4 hown4 hgrow4; simp only [Nat.zero_add, List.nil_append] at hown4; have HW4 := Lib.hid (((Below.refl w.heap.size w).alloc (Nat.le_refl _) (.cells #[] 4)).grown hgrow4 (by simp) (by simp [Value.ownBlock])); have HO := Lib.hid hown4; clear hown4 hgrow4))
    go_ret
    exact Own.mk HO.out HW4.out
set_option maxRecDepth 100000 in
theorem CloneW_own (a : Option Addr) (n c : Nat) (l : List UInt16) (w : World) (hl : Sl b16 w w.heap.size a n c l) (hn : n ≤ 1000000) :
    Calls Try.prog 43 #[.slice a n c] w (Own b16 29 l w) := by
  cases a with
  | none =>
    obtain ⟨rfl, rfl, rfl⟩ := sl_nil hl
    have hq : (binOp .eql 26 (.slice none 0 0) (.slice none 0 0)).run Try.prog w = .ok (.bool true) w := by kernel_rfl
    go_enter Try.func43, Try.ntmps43
    go_wp2_with fail
    go_ret
    exact Own.mk own_nil' (Below.refl _ _)
  | some x =>
    obtain ⟨iB, hB0, hB1, hB2, hB3⟩ := info_parts info16
    have hq : (binOp .eql 26 (.slice (some x) n c) (.slice none 0 0)).run Try.prog w = .ok (.bool false) w := by kernel_rfl
    have HL := Lib.hid hl
    clear hl
    go_enter Try.func43, Try.ntmps43
    go_wp2_with (at_builtin; go_loud (refine wpList_append_sl (f := b16) b16_one' rfl (.tmp 5) (.tmp 6) 26 rfl w.heap.size 29 iB (.int .u16 0) 2 Try.underlying26 hB0 hB1 hB2 hB3 rfl (.slice (some ⟨w.heap.size, 0, none⟩) 0 0) 0 [] rfl (World.ownsRow_made w #[] 0 (Nat.le_refl _) (by unfold maxLen; omega) rfl) (some x) n c rfl (HL.out.alloc (Nat.le_refl _) _) (by unfold maxLen; omega) (by omega) (by simp) ?_; intro v4 w4 hown4 hgrow4; simp only [Nat.zero_add, List.nil_append] at hown4; have HW4 := Lib.hid (((Below.refl w.heap.size w).alloc (Nat.le_refl _) (.cells #[] 29)).grown hgrow4 (by simp) (by simp [Value.ownBlock])); have HO := Lib.hid hown4; clear hown4 hgrow4))
    go_ret
    exact Own.mk HO.out HW4.out

/-- A memory in four rows of the call's own. -/
structure OwnMe (w : World) (base : Nat) (m : Me) (q : Pl) : Prop where
  coils : w.ownsRow base 4 1 (.slice q.ca m.coils.length q.cc) m.coils.length (m.coils.map Value.bool)
  inputs : w.ownsRow base 4 1 (.slice q.ia m.inputs.length q.ic) m.inputs.length (m.inputs.map Value.bool)
  holding : w.ownsRow base 29 1 (.slice q.ha m.holding.length q.hc) m.holding.length (m.holding.map b16)
  words : w.ownsRow base 29 1 (.slice q.wa m.words.length q.wc) m.words.length (m.words.map b16)
  ci : ∀ x y : Addr, q.ca = some x → q.ia = some y → x.block ≠ y.block
  ch : ∀ x y : Addr, q.ca = some x → q.ha = some y → x.block ≠ y.block
  cw : ∀ x y : Addr, q.ca = some x → q.wa = some y → x.block ≠ y.block
  hi : ∀ x y : Addr, q.ha = some x → q.ia = some y → x.block ≠ y.block
  hw : ∀ x y : Addr, q.ha = some x → q.wa = some y → x.block ≠ y.block
theorem sl_own {α : Type} {f : α → Value} {w : World} {base : Nat} {T : TypeId} {a : Option Addr} {n c m : Nat} {l : List α} (h : w.ownsRow base T 1 (.slice a n c) m (l.map f)) : Sl f w w.heap.size a n c l := by
  obtain ⟨a', c', hv, hs⟩ := Sl.of_own h
  injection hv with e1 e2 e3
  subst e1 e2 e3
  exact hs
theorem own_block {w : World} {base : Nat} {T : TypeId} {x : Addr} {n c m : Nat} {xs : List Value} (h : w.ownsRow base T 1 (.slice (some x) n c) m xs) : base ≤ x.block ∧ x.block < w.heap.size := h.lt x.block rfl
theorem own_below' {w w' : World} {base : Nat} {T : TypeId} {v : Value} {n : Nat} {xs : List Value} (h : w.ownsRow base T 1 v n xs) (hb : Below w.heap.size w w') : w'.ownsRow base T 1 v n xs :=
  h.kept (row := none) ⟨hb.os, hb.tape, hb.output, hb.size, fun k hk _ => hb.block k hk⟩ (by cases hv : v.ownBlock <;> simp)
theorem own_base {w : World} {base base' : Nat} {T : TypeId} {v : Value} {n : Nat} {xs : List Value} (h : w.ownsRow base T 1 v n xs) (hb : base' ≤ base) : w.ownsRow base' T 1 v n xs := by
  refine ⟨h.1, ?_⟩
  rcases h.2 with h | ⟨g, cap, cur, hv, hbg, h⟩
  · exact .inl h
  · exact .inr ⟨g, cap, cur, hv, by omega, h⟩
section
variable {w w' : World} {base : Nat} {m : Me} {q : Pl}
theorem OwnMe.me (h : OwnMe w base m q) : MeAt w w.heap.size m q := ⟨sl_own h.coils, sl_own h.inputs, sl_own h.holding, sl_own h.words⟩
theorem OwnMe.on (h : OwnMe w base m q) (hb : Below w.heap.size w w') : OwnMe w' base m q := ⟨own_below' h.coils hb, own_below' h.inputs hb, own_below' h.holding hb, own_below' h.words hb, h.ci, h.ch, h.cw, h.hi, h.hw⟩
end
/-- The call makes a memory of its own. -/
def Clones (m : Me) (w : World) (e : Ending) (w' : World) : Prop := ∃ q, e = .returned (meV m q) ∧ OwnMe w' w.heap.size m q ∧ Below w.heap.size w w'

/-- The boxes of a clone under way: what is read, and the row of the result. -/
structure CW (w W : World) (c z : Array Value) : Prop where
  below : Below w.heap.size w W
  src : W.heap[w.heap.size]? = some (.cells c 28 (0, 0))
  dst : W.heap[w.heap.size + 1]? = some (.cells z 28 (0, 0))
theorem CW.lt {w W : World} {c z : Array Value} (h : CW w W c z) : w.heap.size + 1 < W.heap.size := (Array.getElem?_eq_some_iff.1 h.dst).1
theorem CW.on {w W W' : World} {c z : Array Value} (h : CW w W c z) (hb : Below W.heap.size W W') : CW w W' c z :=
  ⟨h.below.trans (hb.mono h.below.size), row_cell h.src hb, row_cell h.dst hb⟩
theorem CW.four {w W : World} {c0 c1 c2 c3 : Value} {z : Array Value} (h : CW w W #[c0, c1, c2, c3] z) : W.cell? ⟨w.heap.size, 0, none⟩ = some c0 ∧ W.cell? ⟨w.heap.size, 1, none⟩ = some c1 ∧ W.cell? ⟨w.heap.size, 2, none⟩ = some c2 ∧ W.cell? ⟨w.heap.size, 3, none⟩ = some c3 :=
  ⟨cell_of_row _ _ _ _ _ _ h.src, cell_of_row _ _ _ _ _ _ h.src, cell_of_row _ _ _ _ _ _ h.src, cell_of_row _ _ _ _ _ _ h.src⟩
theorem CW.dsts {w W : World} {c : Array Value} {c0 c1 c2 c3 : Value} (h : CW w W c #[c0, c1, c2, c3]) : W.cell? ⟨w.heap.size + 1, 0, none⟩ = some c0 ∧ W.cell? ⟨w.heap.size + 1, 1, none⟩ = some c1 ∧ W.cell? ⟨w.heap.size + 1, 2, none⟩ = some c2 ∧ W.cell? ⟨w.heap.size + 1, 3, none⟩ = some c3 ∧ ∀ i, W.frozen? ⟨w.heap.size + 1, i, none⟩ = false :=
  ⟨cell_of_row _ _ _ _ _ _ h.dst, cell_of_row _ _ _ _ _ _ h.dst, cell_of_row _ _ _ _ _ _ h.dst, cell_of_row _ _ _ _ _ _ h.dst, fun _ => frozen_of_row _ _ _ _ _ h.dst⟩
theorem CW.fill {w W : World} {c : Array Value} {u1 u2 u3 u4 : Value} (h : CW w W c #[.slice none 0 0, .slice none 0 0, .slice none 0 0, .slice none 0 0]) :
    CW w ((((W.setCell ⟨w.heap.size + 1, 0, none⟩ u1).setCell ⟨w.heap.size + 1, 1, none⟩ u2).setCell ⟨w.heap.size + 1, 2, none⟩ u3).setCell ⟨w.heap.size + 1, 3, none⟩ u4) c #[u1, u2, u3, u4] := by
  have hne : w.heap.size ≠ w.heap.size + 1 := by omega
  have hle : w.heap.size ≤ w.heap.size + 1 := by omega
  refine ⟨(((h.below.setCell (p := ⟨w.heap.size + 1, 0, none⟩) hle u1).setCell (p := ⟨w.heap.size + 1, 1, none⟩) hle u2).setCell (p := ⟨w.heap.size + 1, 2, none⟩) hle u3).setCell (p := ⟨w.heap.size + 1, 3, none⟩) hle u4, ?_, ?_⟩
  · rw [Below.heap_setCell _ _ _ _ hne, Below.heap_setCell _ _ _ _ hne, Below.heap_setCell _ _ _ _ hne, Below.heap_setCell _ _ _ _ hne]
    exact h.src
  · exact heap_setCell_same _ _ _ _ _ _ (heap_setCell_same _ _ _ _ _ _ (heap_setCell_same _ _ _ _ _ _ (heap_setCell_same _ _ _ _ _ _ h.dst)))
theorem own_set4 {W : World} {base b : Nat} {T : TypeId} {v : Value} {n : Nat} {xs : List Value} {u1 u2 u3 u4 : Value} (h : W.ownsRow base T 1 v n xs) (hne : v.ownBlock ≠ some b) :
    ((((W.setCell ⟨b, 0, none⟩ u1).setCell ⟨b, 1, none⟩ u2).setCell ⟨b, 2, none⟩ u3).setCell ⟨b, 3, none⟩ u4).ownsRow base T 1 v n xs := by
  refine h.kept (row := some b) ⟨rfl, rfl, rfl, by simp only [World.size_setCell]; exact Nat.le_refl _, fun k _ hk => ?_⟩ (.inr hne)
  have hk : k ≠ b := fun e => hk (by rw [e])
  rw [Below.heap_setCell _ _ _ _ hk, Below.heap_setCell _ _ _ _ hk, Below.heap_setCell _ _ _ _ hk, Below.heap_setCell _ _ _ _ hk]
theorem own_ne {W : World} {base b : Nat} {T : TypeId} {v : Value} {n : Nat} {xs : List Value} (h : W.ownsRow base T 1 v n xs) (hlt : b < base) : v.ownBlock ≠ some b := fun e => by
  have := (h.lt b e).1
  omega

set_option maxRecDepth 100000 in
set_option maxHeartbeats 4000000 in
theorem clone_any (m : Me) (p : Pl) (w : World) (hM : MeAt w w.heap.size m p) (hm : MeSmall m) :
    Calls Try.prog 23 #[meV m p] w (Clones m w) := by
  have HM := Lib.hid hM
  have HC1 := Lib.hid (fun W (h : Below w.heap.size w W) => CloneB_own p.ca _ p.cc m.coils W ((HM.out.on h).coils) hm.coils)
  have HC2 := Lib.hid (fun W (h : Below w.heap.size w W) => CloneB_own p.ia _ p.ic m.inputs W ((HM.out.on h).inputs) hm.inputs)
  have HC3 := Lib.hid (fun W (h : Below w.heap.size w W) => CloneW_own p.ha _ p.hc m.holding W ((HM.out.on h).holding) hm.holding)
  have HC4 := Lib.hid (fun W (h : Below w.heap.size w W) => CloneW_own p.wa _ p.wc m.words W ((HM.out.on h).words) hm.words)
  obtain ⟨m1, m2, m3, m4⟩ := m
  obtain ⟨ca, cc, ia, ic, ha, hc, wa, wc⟩ := p
  simp only at HC1 HC2 HC3 HC4
  have hcw : CW w ((w.alloc (.cells #[.slice ca m1.length cc, .slice ia m2.length ic, .slice ha m3.length hc, .slice wa m4.length wc] 28)).alloc (.cells #[.slice none 0 0, .slice none 0 0, .slice none 0 0, .slice none 0 0] 28)) #[.slice ca m1.length cc, .slice ia m2.length ic, .slice ha m3.length hc, .slice wa m4.length wc] #[.slice none 0 0, .slice none 0 0, .slice none 0 0, .slice none 0 0] :=
    ⟨below_two w _ _, (Below.heap_alloc _ _ _ (by simp)).trans (heap_alloc_new w _), at_one w _ _⟩
  clear hM hm HM
  go_enter Try.func23, Try.ntmps23
  go_wp2_with fail
  generalize (w.alloc (.cells #[.slice ca m1.length cc, .slice ia m2.length ic, .slice ha m3.length hc, .slice wa m4.length wc] 28)).alloc (.cells #[.slice none 0 0, .slice none 0 0, .slice none 0 0, .slice none 0 0] 28) = W0 at *
  have K0 : Hid (CW w W0.drew #[.slice ca m1.length cc, .slice ia m2.length ic, .slice ha m3.length hc, .slice wa m4.length wc] #[.slice none 0 0, .slice none 0 0, .slice none 0 0, .slice none 0 0]) := Lib.hid (hcw.on (below_drawn (Below.refl _ W0) 1))
  have hk0 := hcw.four
  have hk1 := K0.out.four
  clear hcw
  go_region_held3 (fun w' => w'.cell? ⟨w.heap.size, 0, none⟩ = some (.slice ca m1.length cc) ∧ w'.cell? ⟨w.heap.size, 1, none⟩ = some (.slice ia m2.length ic) ∧ w'.cell? ⟨w.heap.size, 2, none⟩ = some (.slice ha m3.length hc) ∧ w'.cell? ⟨w.heap.size, 3, none⟩ = some (.slice wa m4.length wc))
    (first
      | with_reducible exact hk0
      | with_reducible exact hk1
      | with_reducible exact hkA
      | with_reducible exact hkB
      | with_reducible exact hkC
      | with_reducible exact hkD
      | with_reducible exact hkS
      | go_keep)
    (first
      | (revert K0; intro K0; go_at_call 42; (with_reducible refine (HC1.out _ K0.out.below).mono ?_); rintro e wA ⟨a1, c1, rfl, hoA, hbA⟩; have KA := Lib.hid (K0.out.on hbA); have hkA := KA.out.four; have OA := Lib.hid (own_base hoA (K0.out.below.size)); have NA := Lib.hid (own_ne hoA K0.out.lt); clear hoA hbA K0)
      | (revert KA; intro KA; go_at_call 42; (with_reducible refine (HC2.out _ KA.out.below).mono ?_); rintro e wB ⟨a2, c2, rfl, hoB, hbB⟩; have KB := Lib.hid (KA.out.on hbB); have hkB := KB.out.four; have OB := Lib.hid (own_base hoB (KA.out.below.size)); have NB := Lib.hid (own_ne hoB KA.out.lt); have OA2 := Lib.hid (own_below' OA.out hbB); have DB : Hid (∀ x y : Addr, a1 = some x → a2 = some y → x.block ≠ y.block) := Lib.hid (fun x y h1 h2 => by subst h1 h2; have := own_block OA.out; have := own_block hoB; omega); clear hoB hbB KA OA)
      | (revert KB; intro KB; go_at_call 43; (with_reducible refine (HC3.out _ KB.out.below).mono ?_); rintro e wC ⟨a3, c3, rfl, hoC, hbC⟩; have KC := Lib.hid (KB.out.on hbC); have hkC := KC.out.four; have OC := Lib.hid (own_base hoC (KB.out.below.size)); have NC := Lib.hid (own_ne hoC KB.out.lt); have OA3 := Lib.hid (own_below' OA2.out hbC); have OB3 := Lib.hid (own_below' OB.out hbC); have DC1 : Hid (∀ x y : Addr, a1 = some x → a3 = some y → x.block ≠ y.block) := Lib.hid (fun x y h1 h2 => by subst h1 h2; have := own_block OA2.out; have := own_block hoC; omega); have DC2 : Hid (∀ x y : Addr, a3 = some x → a2 = some y → x.block ≠ y.block) := Lib.hid (fun x y h1 h2 => by subst h1 h2; have := own_block OB.out; have := own_block hoC; omega); clear hoC hbC KB OA2 OB)
      | (revert KC; intro KC; go_at_call 43; (with_reducible refine (HC4.out _ KC.out.below).mono ?_); rintro e wD ⟨a4, c4, rfl, hoD, hbD⟩; have KD := Lib.hid (KC.out.on hbD); have hkD := KD.out.four; have OD := Lib.hid (own_base hoD (KC.out.below.size)); have ND := Lib.hid (own_ne hoD KC.out.lt); have OA4 := Lib.hid (own_below' OA3.out hbD); have OB4 := Lib.hid (own_below' OB3.out hbD); have OC4 := Lib.hid (own_below' OC.out hbD); have DD1 : Hid (∀ x y : Addr, a1 = some x → a4 = some y → x.block ≠ y.block) := Lib.hid (fun x y h1 h2 => by subst h1 h2; have := own_block OA3.out; have := own_block hoD; omega); have DD2 : Hid (∀ x y : Addr, a3 = some x → a4 = some y → x.block ≠ y.block) := Lib.hid (fun x y h1 h2 => by subst h1 h2; have := own_block OC.out; have := own_block hoD; omega); obtain ⟨hv0, hv1, hv2, hv3, hz0⟩ := KD.out.dsts; have KS := Lib.hid (KD.out.fill (u1 := .slice a1 m1.length c1) (u2 := .slice a2 m2.length c2) (u3 := .slice a3 m3.length c3) (u4 := .slice a4 m4.length c4)); have hkS := KS.out.four; clear hoD hbD KC OA3 OB3 OC))
  have HOM : Hid (OwnMe ((((wD.setCell ⟨w.heap.size + 1, 0, none⟩ (.slice a1 m1.length c1)).setCell ⟨w.heap.size + 1, 1, none⟩ (.slice a2 m2.length c2)).setCell ⟨w.heap.size + 1, 2, none⟩ (.slice a3 m3.length c3)).setCell ⟨w.heap.size + 1, 3, none⟩ (.slice a4 m4.length c4)) w.heap.size ⟨m1, m2, m3, m4⟩ ⟨a1, c1, a2, c2, a3, c3, a4, c4⟩) := Lib.hid ⟨own_set4 OA4.out NA.out, own_set4 OB4.out NB.out, own_set4 OC4.out NC.out, own_set4 OD.out ND.out, DB.out, DC1.out, DD1.out, DC2.out, DD2.out⟩
  clear hk0 hk1 hkA hkB hkC hkD hkS hv0 hv1 hv2 hv3 hz0 HC1 HC2 HC3 HC4
  go_wp2_with fail
  exact bodyPost_ret (results_cell_row rfl _ _ (w.heap.size + 1) 28 _ (0, 0) _ rfl KS.out.dst Try.underlying28 rfl (by kernel_rfl)) rfl ⟨⟨a1, c1, a2, c2, a3, c3, a4, c4⟩, rfl, HOM.out, KS.out.below⟩
end Go.Proofs.Ytamdpinfbadflaa.ModW

