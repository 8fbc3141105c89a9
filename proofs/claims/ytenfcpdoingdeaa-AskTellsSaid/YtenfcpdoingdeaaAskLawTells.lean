/- Requests beside the document's own answer: which are right, and the same, their bytes, what bytes say. -/
import Derived.Test.YtenfcpdoingdeaaRefLook
import Derived.Test.YtenfcpdoingdeaaRefSame
import Derived.Test.YtenfcpdoingdeaaAskKit
import Derived.Test.YtenfcpdoingdeaaQuiet
import Derived.Test.YtenfcpdoingdeaaStep
import Derived.Deep.RegionHeld3
open Go.RowKit
namespace Go.Proofs.Ytenfcpdoingdeaa.RefW
open AskM AskW Mem

theorem b8_one : ∀ x : UInt8, (b8 x).oneCell' = true := fun _ => rfl
theorem enters_right (args : Array Value) (w : World) : (callFunc 10 args).run Try.prog w = .ok (.enter 10 args) w := by
  have h := Try.func10
  unfold callFunc
  rw [Sem.run_bind]
  simp only [run_program, Result.andThen_ok, h]
  have e1 : (Try.f10.name == "runtime.NumGoroutine") = false := by kernel_rfl
  have e2 : Try.f10.body.isNone = false := by kernel_rfl
  rw [e1, e2]
  rfl
theorem enters_rright (args : Array Value) (w : World) : (callFunc 11 args).run Try.prog w = .ok (.enter 11 args) w := by
  have h := Try.func11
  unfold callFunc
  rw [Sem.run_bind]
  simp only [run_program, Result.andThen_ok, h]
  have e1 : (Try.f11.name == "runtime.NumGoroutine") = false := by kernel_rfl
  have e2 : Try.f11.body.isNone = false := by kernel_rfl
  rw [e1, e2]
  rfl
theorem enters_same (args : Array Value) (w : World) : (callFunc 12 args).run Try.prog w = .ok (.enter 12 args) w := by
  have h := Try.func12
  unfold callFunc
  rw [Sem.run_bind]
  simp only [run_program, Result.andThen_ok, h]
  have e1 : (Try.f12.name == "runtime.NumGoroutine") = false := by kernel_rfl
  have e2 : Try.f12.body.isNone = false := by kernel_rfl
  rw [e1, e2]
  rfl
theorem enters_rsame (args : Array Value) (w : World) : (callFunc 13 args).run Try.prog w = .ok (.enter 13 args) w := by
  have h := Try.func13
  unfold callFunc
  rw [Sem.run_bind]
  simp only [run_program, Result.andThen_ok, h]
  have e1 : (Try.f13.name == "runtime.NumGoroutine") = false := by kernel_rfl
  have e2 : Try.f13.body.isNone = false := by kernel_rfl
  rw [e1, e2]
  rfl

theorem right_on {W0 : World} {a : Req} {aw ab : Option Addr} {cw cb : Nat} (hw : a.words.length ≤ 1000000) (hb : a.bits.length ≤ 1000000) {x : Bool} (hx : rightN a = x) (W : World) (h : Below W0.heap.size W0 W) :
    Calls Try.prog 10 #[askV a aw cw ab cb] W fun e W' => e = .returned (.bool x) ∧ Below W0.heap.size W0 W' :=
  (Right_any a aw cw ab cb W hw hb).mono fun _ _ ⟨he, hb⟩ => ⟨by rw [he, hx], h.trans (hb.mono h.size)⟩
theorem rright_on {W0 : World} {a : Req} {aw ab : Option Addr} {cw cb : Nat} (hw : a.words.length ≤ 1000000) (hb : a.bits.length ≤ 1000000) {x : Bool} (hx : rightN a = x) (W : World) (h : Below W0.heap.size W0 W) :
    Calls Try.prog 11 #[askV a aw cw ab cb] W fun e W' => e = .returned (.bool x) ∧ Below W0.heap.size W0 W' :=
  (rRight_any a aw cw ab cb W hw hb).mono fun _ _ ⟨he, hb⟩ => ⟨by rw [he, hx], h.trans (hb.mono h.size)⟩
theorem rsame_on {W0 : World} {a o : Req} {aw ab ow ob : Option Addr} {cw cb dw db : Nat} (hA : AskAt W0 W0.heap.size a aw cw ab cb) (hO : AskAt W0 W0.heap.size o ow dw ob db) {x : Bool} (hx : decide (a = o) = x) (W : World) (h : Below W0.heap.size W0 W) :
    Calls Try.prog 13 #[askV a aw cw ab cb, askV o ow dw ob db] W fun e W' => e = .returned (.bool x) ∧ Below W0.heap.size W0 W' :=
  (rSame_any a o _ _ _ _ _ _ _ _ W (hA.below h) (hO.below h)).mono fun _ _ ⟨he, hb⟩ => ⟨by rw [he, hx], h.trans (hb.mono h.size)⟩
/-- The arguments, and the copy of the bytes, all along. -/
structure TK (w W : World) (c1 c2 : Array Value) (b : Option Addr) (n c : Nat) (p : Option Addr) (d : Nat) (l : List UInt8) : Prop where
  box : Boxed w c1 c2 26 26 W
  bb : Sl b8 W W.heap.size b n c l
  ii : Sl b8 W W.heap.size p n d l
theorem TK.on {w W W' : World} {c1 c2 : Array Value} {b p : Option Addr} {n c d : Nat} {l : List UInt8} (h : TK w W c1 c2 b n c p d l) (hb : Below W.heap.size W W') : TK w W' c1 c2 b n c p d l :=
  ⟨h.box.on (hb.mono h.box.size), (h.bb.below hb (Nat.le_refl _)).more hb.size, (h.ii.below hb (Nat.le_refl _)).more hb.size⟩
theorem below_one (w : World) (o : Obj) : Below w.heap.size w (w.alloc o) := (Below.refl _ _).alloc (Nat.le_refl _) o
theorem row_on {w w' : World} {g : Nat} {o : Obj} (h : w.heap[g]? = some o) (hb : Below w.heap.size w w') : w'.heap[g]? = some o := (hb.block g (Array.getElem?_eq_some_iff.1 h).1).trans h
theorem Sl.onn {α : Type} {f : α → Value} {w w' : World} {n c : Nat} {a : Option Addr} {l : List α} (h : Sl f w w.heap.size a n c l) (hb : Below w.heap.size w w') : Sl f w' w'.heap.size a n c l := (h.below hb (Nat.le_refl _)).more hb.size
set_option maxRecDepth 100000 in
set_option maxHeartbeats 40000000 in
theorem AskTells_walk (a : Req) (aw : Option Addr) (cw : Nat) (ab : Option Addr) (cb : Nat) (o : Req) (ow : Option Addr) (dw : Nat) (ob : Option Addr) (db : Nat) (b : Option Addr) (n c : Nat) (l : List UInt8) (w : World)
    (hA : AskAt w w.heap.size a aw cw ab cb) (hO : AskAt w w.heap.size o ow dw ob db) (hS : Sl b8 w w.heap.size b n c l) :
    Calls Try.prog 3 #[askV a aw cw ab cb, askV o ow dw ob db, .slice b n c] w (Says (.bool true) w) := by
  have hn := len_le hS
  have l1 := len_le hA.words
  have l2 := len_le hA.bits
  have l3 := len_le hO.words
  have l4 := len_le hO.bits
  have HS := Lib.hid hS
  have HA := Lib.hid hA
  have HO := Lib.hid hO
  clear hS hA hO
  obtain ⟨f1, a1, m1, t1, ws, bs⟩ := a
  obtain ⟨f2, a2, m2, t2, vs, ds⟩ := o
  simp only at l1 l2 l3 l4
  by_cases h1 : ws.length ≤ 200 ∧ bs.length ≤ 2100
  case neg =>
    have hx := Lib.hid (few_false h1)
    clear h1
    go_enter Try.func3, Try.ntmps3
    go_wp2_with fail
    refine (Few_any _ _ _ _ _ _ _ l1 l2).mono ?_
    rintro e w1 ⟨rfl, rfl⟩
    rw [hx.out]
    go_wp2_with fail
    refine (awake_any _).mono ?_
    rintro e w1 ⟨rfl, hb⟩
    go_wp2_with fail
    go_ret
    exact Says.mk ((below_two w _ _).trans (hb.mono (by simp; omega)))
  have hx1 := Lib.hid (few_true h1.1 h1.2)
  by_cases h2 : vs.length ≤ 200 ∧ ds.length ≤ 2100
  case neg =>
    have hx := Lib.hid (few_false h2)
    clear h1 h2
    go_enter Try.func3, Try.ntmps3
    go_wp2_with fail
    refine (Few_any _ _ _ _ _ _ _ l1 l2).mono ?_
    rintro e w1 ⟨rfl, rfl⟩
    rw [hx1.out]
    go_wp2_with fail
    refine (Few_any _ _ _ _ _ _ _ l3 l4).mono ?_
    rintro e w1 ⟨rfl, rfl⟩
    rw [hx.out]
    go_wp2_with fail
    refine (awake_any _).mono ?_
    rintro e w1 ⟨rfl, hb⟩
    go_wp2_with fail
    go_ret
    exact Says.mk ((below_two w _ _).trans (hb.mono (by simp; omega)))
  have hx2 := Lib.hid (few_true h2.1 h2.2)
  by_cases h3 : 300 < n
  · have h3' : decide (300 < (n : Int)) = true := by simp; omega
    clear h1 h2
    go_enter Try.func3, Try.ntmps3
    go_wp2_with fail
    refine (Few_any _ _ _ _ _ _ _ l1 l2).mono ?_
    rintro e w1 ⟨rfl, rfl⟩
    rw [hx1.out]
    go_wp2_with fail
    refine (Few_any _ _ _ _ _ _ _ l3 l4).mono ?_
    rintro e w1 ⟨rfl, rfl⟩
    rw [hx2.out]
    go_wp2_with fail
    refine (awake_any _).mono ?_
    rintro e w1 ⟨rfl, hb⟩
    go_wp2_with fail
    go_ret
    exact Says.mk ((below_two w _ _).trans (hb.mono (by simp; omega)))
  have h3' : decide (300 < (n : Int)) = false := by simp; omega
  have HW := Lib.hid (And.intro (show ws.length ≤ 1000000 by omega) (And.intro (show bs.length ≤ 1000000 by omega) (And.intro (show vs.length ≤ 1000000 by omega) (show ds.length ≤ 1000000 by omega))))
  have n3 : n ≤ 300 := by omega
  obtain ⟨i0, hi0, hz0, hz1, hz2⟩ := info_parts info8
  have hz2' : i0.bytes = 1 := hz2
  have HI := Lib.hid (And.intro hi0 (And.intro hz0 (And.intro hz1 hz2')))
  clear h1 h2 h3 hi0 hz0 hz1 hz2 hz2'
  go_enter Try.func3, Try.ntmps3
  go_wp2_with fail
  refine (Few_any _ _ _ _ _ _ _ l1 l2).mono ?_
  rintro e w1 ⟨rfl, rfl⟩
  rw [hx1.out]
  go_wp2_with fail
  refine (Few_any _ _ _ _ _ _ _ l3 l4).mono ?_
  rintro e w1 ⟨rfl, rfl⟩
  rw [hx2.out]
  have HB0 : Hid (Boxed w #[b8 f1, b16 a1, b16 m1, b16 t1, .slice aw ws.length cw, .slice ab bs.length cb] #[b8 f2, b16 a2, b16 m2, b16 t2, .slice ow vs.length dw, .slice ob ds.length db] 26 26 ((w.alloc (.cells #[b8 f1, b16 a1, b16 m1, b16 t1, .slice aw ws.length cw, .slice ab bs.length cb] 26)).alloc (.cells #[b8 f2, b16 a2, b16 m2, b16 t2, .slice ow vs.length dw, .slice ob ds.length db] 26))) := Lib.hid (Below.refl _ _)
  generalize (w.alloc (.cells #[b8 f1, b16 a1, b16 m1, b16 t1, .slice aw ws.length cw, .slice ab bs.length cb] 26)).alloc (.cells #[b8 f2, b16 a2, b16 m2, b16 t2, .slice ow vs.length dw, .slice ob ds.length db] 26) = w0 at *
  go_wp2_with (at_builtin; refine wpList_append_list (f := b8) b8_one rfl (.tmp 40) (.tmp 41) 27 rfl w0.heap.size 5 i0 (.int .u8 0) 1 Try.underlying27 HI.out.1 HI.out.2.1 HI.out.2.2.1 HI.out.2.2.2 rfl (.slice (some ⟨w0.heap.size, 0, none⟩) 0 0) 0 [] rfl (World.ownsRow_made w0 #[] 0 (Nat.le_refl _) (by unfold maxLen; omega) rfl) b n c rfl (B := w0.heap.size) (((HS.out.below HB0.out.below (Nat.le_refl _)).more HB0.out.below.size).alloc (Nat.le_refl _) _) (by unfold maxLen; omega) (by omega) (by simp) ?_; intro vin win hown hgrow; simp only [Nat.zero_add, List.nil_append] at hown; obtain ⟨p, d, rfl, hsp⟩ := Sl.of_own hown; have hbin : Below w0.heap.size w0 win := Grew.below ((Below.refl _ _).alloc (Nat.le_refl _) _) hgrow (by simp) (fun k hk => by simp [Value.ownBlock] at hk; omega); have K1 := Lib.hid (show TK w win #[b8 f1, b16 a1, b16 m1, b16 t1, .slice aw ws.length cw, .slice ab bs.length cb] #[b8 f2, b16 a2, b16 m2, b16 t2, .slice ow vs.length dw, .slice ob ds.length db] b n c p d l from ⟨HB0.out.on (hbin.mono HB0.out.size), ((HS.out.below HB0.out.below (Nat.le_refl _)).more HB0.out.below.size |>.below hbin (Nat.le_refl _)).more hbin.size, hsp⟩); have C1 := K1.out.box.one; clear hown hgrow hsp hbin)
  refine (Bytes_any ⟨f1, a1, m1, t1, ws, bs⟩ aw cw ab cb win (HA.out.below K1.out.box.below) HW.out.1 HW.out.2.1).mono ?_
  intro e w2 h
  obtain ⟨x1, n1, c1, er, rfl, hs, HE1, hb⟩ := h.all
  have K2 := Lib.hid (K1.out.on hb)
  have HS2 := Lib.hid hs
  clear h hs hb K1 C1
  have C1 := K2.out.box.one
  go_wp2_with fail
  refine (rBytes_any ⟨f1, a1, m1, t1, ws, bs⟩ aw cw ab cb w2 (HA.out.below K2.out.box.below) HW.out.1 HW.out.2.1).mono ?_
  intro e W0 h
  obtain ⟨x2, n2, c2, er2, rfl, hs, HE2, hb⟩ := h.all
  have K3 := Lib.hid (K2.out.on hb)
  have HS3 := Lib.hid (And.intro (Sl.onn HS2.out hb) hs)
  have hee : er2 = er := by rw [HE2.out, HE1.out]
  subst hee
  clear h hs hb K2 HS2 C1 HE1 HE2
  have hA0 := HA.out.below K3.out.box.below
  have hO0 := HO.out.below K3.out.box.below
  have HR1 : ∀ W, Below W0.heap.size W0 W → W.heap[w.heap.size]? = some (.cells #[b8 f1, b16 a1, b16 m1, b16 t1, .slice aw ws.length cw, .slice ab bs.length cb] 26 (0, 0)) := fun W h => (K3.out.on h).box.h1
  have HR2 : ∀ W, Below W0.heap.size W0 W → W.heap[w.heap.size + 1]? = some (.cells #[b8 f2, b16 a2, b16 m2, b16 t2, .slice ow vs.length dw, .slice ob ds.length db] 26 (0, 0)) := fun W h => (K3.out.on h).box.h2
  have HRT := Lib.hid (fun x (hx : rightN ⟨f1, a1, m1, t1, ws, bs⟩ = x) => right_on (W0 := W0) (a := ⟨f1, a1, m1, t1, ws, bs⟩) (aw := aw) (cw := cw) (ab := ab) (cb := cb) HW.out.1 HW.out.2.1 hx)
  have HRR := Lib.hid (fun x (hx : rightN ⟨f1, a1, m1, t1, ws, bs⟩ = x) => rright_on (W0 := W0) (a := ⟨f1, a1, m1, t1, ws, bs⟩) (aw := aw) (cw := cw) (ab := ab) (cb := cb) HW.out.1 HW.out.2.1 hx)
  have HSM := Lib.hid (fun x hx => same_on hA0 hO0 (x := x) hx)
  have HRS := Lib.hid (fun x hx => rsame_on hA0 hO0 (x := x) hx)
  have HLS := Lib.hid (lowsame_on HS3.out.1 HS3.out.2 (decide_eq_true rfl))
  obtain ⟨rr, hrr⟩ : ∃ x, rightN ⟨f1, a1, m1, t1, ws, bs⟩ = x := ⟨_, rfl⟩
  obtain ⟨ss, hss⟩ : ∃ x, decide ((⟨f1, a1, m1, t1, ws, bs⟩ : Req) = ⟨f2, a2, m2, t2, vs, ds⟩) = x := ⟨_, rfl⟩
  have HRR2 := Lib.hid (And.intro (HRT.out rr hrr) (And.intro (HRR.out rr hrr) (And.intro (HSM.out ss hss) (HRS.out ss hss))))
  clear hA0 hO0 HRT HRR HSM HRS hrr hss
  go_wp2_with fail
  refine region_quiet (fun W => Below W0.heap.size W0 W) (by kernel_rfl) (by kernel_rfl) (Below.refl _ _).drew ?_
  intro ops Q' hops hQ
  refine QP.val (.agg #[b8 f1, b16 a1, b16 m1, b16 t1, .slice aw ws.length cw, .slice ab bs.length cb]) (by rfl) (fun wC hC => runq_load_row (t := 26) (g := w.heap.size) (fr := (0, 0)) rfl (by kernel_rfl) (HR1 wC hC) Try.underlying26 rfl (by kernel_rfl)) ?_
  refine QP.call 10 #[.agg #[b8 f1, b16 a1, b16 m1, b16 t1, .slice aw ws.length cw, .slice ab bs.length cb]] (.bool rr) (by rfl) (fun wC hC => (congrArg (fun s => Sem.run Try.prog s wC) (by kernel_rfl)).trans (enters_right #[.agg #[b8 f1, b16 a1, b16 m1, b16 t1, .slice aw ws.length cw, .slice ab bs.length cb]] wC)) (fun wC hC => HRR2.out.1 wC hC) ?_
  refine QP.val (.agg #[b8 f1, b16 a1, b16 m1, b16 t1, .slice aw ws.length cw, .slice ab bs.length cb]) (by rfl) (fun wC hC => runq_load_row (t := 26) (g := w.heap.size) (fr := (0, 0)) rfl (by kernel_rfl) (HR1 wC hC) Try.underlying26 rfl (by kernel_rfl)) ?_
  refine QP.call 11 #[.agg #[b8 f1, b16 a1, b16 m1, b16 t1, .slice aw ws.length cw, .slice ab bs.length cb]] (.bool rr) (by rfl) (fun wC hC => (congrArg (fun s => Sem.run Try.prog s wC) (by kernel_rfl)).trans (enters_rright #[.agg #[b8 f1, b16 a1, b16 m1, b16 t1, .slice aw ws.length cw, .slice ab bs.length cb]] wC)) (fun wC hC => HRR2.out.2.1 wC hC) ?_
  refine QP.val (.bool false) (by rfl) (fun wC hC => runq_neqb (p := rr) (q := rr) Try.underlying4 rfl (by kernel_rfl) (by kernel_rfl) (by cases rr <;> rfl)) ?_
  refine QP.val (.bool false) (by rfl) (fun wC hC => runq_move rfl (by kernel_rfl)) ?_
  refine QP.val (.agg #[b8 f1, b16 a1, b16 m1, b16 t1, .slice aw ws.length cw, .slice ab bs.length cb]) (wantedq (j := 5) (d := 58) (want := false) (b := false) rfl (by rw [hops.out]; rfl) (by kernel_rfl) rfl) (fun wC hC => runq_load_row (t := 26) (g := w.heap.size) (fr := (0, 0)) rfl (by kernel_rfl) (HR1 wC hC) Try.underlying26 rfl (by kernel_rfl)) ?_
  refine QP.val (.agg #[b8 f2, b16 a2, b16 m2, b16 t2, .slice ow vs.length dw, .slice ob ds.length db]) (wantedq (j := 5) (d := 58) (want := false) (b := false) rfl (by rw [hops.out]; rfl) (by kernel_rfl) rfl) (fun wC hC => runq_load_row (t := 26) (g := w.heap.size + 1) (fr := (0, 0)) rfl (by kernel_rfl) (HR2 wC hC) Try.underlying26 rfl (by kernel_rfl)) ?_
  refine QP.call 12 #[.agg #[b8 f1, b16 a1, b16 m1, b16 t1, .slice aw ws.length cw, .slice ab bs.length cb], .agg #[b8 f2, b16 a2, b16 m2, b16 t2, .slice ow vs.length dw, .slice ob ds.length db]] (.bool ss) (wantedq (j := 5) (d := 58) (want := false) (b := false) rfl (by rw [hops.out]; rfl) (by kernel_rfl) rfl) (fun wC hC => (congrArg (fun s => Sem.run Try.prog s wC) (by kernel_rfl)).trans (enters_same #[.agg #[b8 f1, b16 a1, b16 m1, b16 t1, .slice aw ws.length cw, .slice ab bs.length cb], .agg #[b8 f2, b16 a2, b16 m2, b16 t2, .slice ow vs.length dw, .slice ob ds.length db]] wC)) (fun wC hC => HRR2.out.2.2.1 wC hC) ?_
  refine QP.val (.agg #[b8 f1, b16 a1, b16 m1, b16 t1, .slice aw ws.length cw, .slice ab bs.length cb]) (wantedq (j := 5) (d := 58) (want := false) (b := false) rfl (by rw [hops.out]; rfl) (by kernel_rfl) rfl) (fun wC hC => runq_load_row (t := 26) (g := w.heap.size) (fr := (0, 0)) rfl (by kernel_rfl) (HR1 wC hC) Try.underlying26 rfl (by kernel_rfl)) ?_
  refine QP.val (.agg #[b8 f2, b16 a2, b16 m2, b16 t2, .slice ow vs.length dw, .slice ob ds.length db]) (wantedq (j := 5) (d := 58) (want := false) (b := false) rfl (by rw [hops.out]; rfl) (by kernel_rfl) rfl) (fun wC hC => runq_load_row (t := 26) (g := w.heap.size + 1) (fr := (0, 0)) rfl (by kernel_rfl) (HR2 wC hC) Try.underlying26 rfl (by kernel_rfl)) ?_
  refine QP.call 13 #[.agg #[b8 f1, b16 a1, b16 m1, b16 t1, .slice aw ws.length cw, .slice ab bs.length cb], .agg #[b8 f2, b16 a2, b16 m2, b16 t2, .slice ow vs.length dw, .slice ob ds.length db]] (.bool ss) (wantedq (j := 5) (d := 58) (want := false) (b := false) rfl (by rw [hops.out]; rfl) (by kernel_rfl) rfl) (fun wC hC => (congrArg (fun s => Sem.run Try.prog s wC) (by kernel_rfl)).trans (enters_rsame #[.agg #[b8 f1, b16 a1, b16 m1, b16 t1, .slice aw ws.length cw, .slice ab bs.length cb], .agg #[b8 f2, b16 a2, b16 m2, b16 t2, .slice ow vs.length dw, .slice ob ds.length db]] wC)) (fun wC hC => HRR2.out.2.2.2 wC hC) ?_
  refine QP.val (.bool false) (wantedq (j := 5) (d := 58) (want := false) (b := false) rfl (by rw [hops.out]; rfl) (by kernel_rfl) rfl) (fun wC hC => runq_neqb (p := ss) (q := ss) Try.underlying4 rfl (by kernel_rfl) (by kernel_rfl) (by cases ss <;> rfl)) ?_
  refine QP.val (.bool false) (by rfl) (fun wC hC => runq_pick (c := false) rfl (by kernel_rfl) (by kernel_rfl)) ?_
  refine QP.val (.bool false) (by rfl) (fun wC hC => runq_move rfl (by kernel_rfl)) ?_
  refine QP.val (.int .i64 er2) (wantedq (j := 14) (d := 67) (want := false) (b := false) rfl (by rw [hops.out]; rfl) (by kernel_rfl) rfl) (fun wC hC => runq_move rfl (by kernel_rfl)) ?_
  refine QP.val (.int .i64 er2) (wantedq (j := 14) (d := 67) (want := false) (b := false) rfl (by rw [hops.out]; rfl) (by kernel_rfl) rfl) (fun wC hC => runq_move rfl (by kernel_rfl)) ?_
  refine QP.val (.bool false) (wantedq (j := 14) (d := 67) (want := false) (b := false) rfl (by rw [hops.out]; rfl) (by kernel_rfl) rfl) (fun wC hC => runq_neq (k := .i64) (p := er2) (q := er2) rfl (by kernel_rfl) (by kernel_rfl) (by simp)) ?_
  refine QP.val (.bool false) (by rfl) (fun wC hC => runq_pick (c := false) rfl (by kernel_rfl) (by kernel_rfl)) ?_
  refine QP.val (.bool false) (by rfl) (fun wC hC => runq_move rfl (by kernel_rfl)) ?_
  refine QP.val (.slice x1 n1 c1) (wantedq (j := 19) (d := 72) (want := false) (b := false) rfl (by rw [hops.out]; rfl) (by kernel_rfl) rfl) (fun wC hC => runq_move rfl (by kernel_rfl)) ?_
  refine QP.val (.slice x2 n2 c2) (wantedq (j := 19) (d := 72) (want := false) (b := false) rfl (by rw [hops.out]; rfl) (by kernel_rfl) rfl) (fun wC hC => runq_move rfl (by kernel_rfl)) ?_
  refine QP.call 14 #[.slice x1 n1 c1, .slice x2 n2 c2] (.bool true) (wantedq (j := 19) (d := 72) (want := false) (b := false) rfl (by rw [hops.out]; rfl) (by kernel_rfl) rfl) (fun wC hC => (congrArg (fun s => Sem.run Try.prog s wC) (by kernel_rfl)).trans (enters_low #[.slice x1 n1 c1, .slice x2 n2 c2] wC)) (fun wC hC => HLS.out wC hC) ?_
  refine QP.val (.bool false) (wantedq (j := 19) (d := 72) (want := false) (b := false) rfl (by rw [hops.out]; rfl) (by kernel_rfl) rfl) (fun wC hC => runq_not (c := true) rfl (by kernel_rfl) rfl) ?_
  refine QP.val (.bool false) (by rfl) (fun wC hC => runq_pick (c := false) rfl (by kernel_rfl) (by kernel_rfl)) ?_
  refine QP.nil (hQ.out _ fun W3 hC => ?_)
  simp only [Act.put, List.setIfInBounds_toArray, List.set_cons_succ, List.set_cons_zero]
  clear hops hQ HR1 HR2 HRR2 HLS HS3
  have K4 := Lib.hid (K3.out.on hC)
  clear hC K3
  -- PARSE
  have HPA := Lib.hid (Parse_any _ _ _ _ W3 K4.out.ii)
  go_wp2_with fail
  refine HPA.out.mono ?_
  rintro e w4 ⟨pw, pcw, pb, pcb, rfl, hP, hb, -⟩
  have K5 := Lib.hid (K4.out.on hb)
  have HP5 := Lib.hid hP
  clear hP hb HPA K4
  generalize hpo : parseN l = po at *
  generalize hq : po.getD (bare 0) = q at *
  generalize hev : (if po.isSome = true then (0 : Int) else 12) = ev at *
  have HRP := Lib.hid (fun W (h : TK w W #[b8 f1, b16 a1, b16 m1, b16 t1, .slice aw ws.length cw, .slice ab bs.length cb] #[b8 f2, b16 a2, b16 m2, b16 t2, .slice ow vs.length dw, .slice ob ds.length db] b n c p d l) => by have h2 := rParse_any b n c l W h.bb (by omega); rw [hpo] at h2; exact h2)
  have HEQ := Lib.hid (And.intro hq hev)
  clear hq hev
  obtain ⟨g1, g2, g3, g4, qs, rs⟩ := q
  have K5a := Lib.hid (K5.out.on (below_one w4 (.cells #[b8 g1, b16 g2, b16 g3, b16 g4, .slice pw qs.length pcw, .slice pb rs.length pcb] 26)))
  have HP5a := Lib.hid (HP5.out.below (below_one w4 (.cells #[b8 g1, b16 g2, b16 g3, b16 g4, .slice pw qs.length pcw, .slice pb rs.length pcb] 26)))
  have HX5 := Lib.hid (heap_alloc_new w4 (.cells #[b8 g1, b16 g2, b16 g3, b16 g4, .slice pw qs.length pcw, .slice pb rs.length pcb] 26))
  have HRP2 := Lib.hid (HRP.out _ K5a.out)
  clear K5 HP5 HRP
  go_wp2_with fail
  refine HRP2.out.mono ?_
  rintro e w5 ⟨rw_, rcw, rb, rcb, rfl, hP, hb, -⟩
  rw [HEQ.out.1] at hP ⊢
  rw [HEQ.out.2]
  have K6 := Lib.hid ((K5a.out.on hb).on (below_one w5 (.cells #[b8 g1, b16 g2, b16 g3, b16 g4, .slice rw_ qs.length rcw, .slice rb rs.length rcb] 26)))
  have HP6 := Lib.hid ((HP5a.out.below hb).below (below_one w5 (.cells #[b8 g1, b16 g2, b16 g3, b16 g4, .slice rw_ qs.length rcw, .slice rb rs.length rcb] 26)))
  have HQ6 := Lib.hid (AskAt.below hP (below_one w5 (.cells #[b8 g1, b16 g2, b16 g3, b16 g4, .slice rw_ qs.length rcw, .slice rb rs.length rcb] 26)))
  have HX6 := Lib.hid (row_on (row_on HX5.out hb) (below_one w5 (.cells #[b8 g1, b16 g2, b16 g3, b16 g4, .slice rw_ qs.length rcw, .slice rb rs.length rcb] 26)))
  have HY6 := Lib.hid (heap_alloc_new w5 (.cells #[b8 g1, b16 g2, b16 g3, b16 g4, .slice rw_ qs.length rcw, .slice rb rs.length rcb] 26))
  have HLK := Lib.hid (Look_any _ _ _ _ _ K6.out.ii)
  have HRL := Lib.hid (fun W (h : TK w W #[b8 f1, b16 a1, b16 m1, b16 t1, .slice aw ws.length cw, .slice ab bs.length cb] #[b8 f2, b16 a2, b16 m2, b16 t2, .slice ow vs.length dw, .slice ob ds.length db] b n c p d l) => rLook_any b n c l W h.bb (by omega))
  generalize lookN l = lr at *
  obtain ⟨⟨k1, k2, k3, k4, us, ts⟩, lk⟩ := lr
  clear hP hb HRP2 K5a HP5a HX5 HEQ hpo
  go_wp2_with fail
  refine HLK.out.mono ?_
  rintro e w6 ⟨sw, scw, sb, scb, rfl, hP, hb, -⟩
  have K7 := Lib.hid ((K6.out.on hb).on (below_one w6 (.cells #[b8 k1, b16 k2, b16 k3, b16 k4, .slice sw us.length scw, .slice sb ts.length scb] 26)))
  have HP7 := Lib.hid ((HP6.out.below hb).below (below_one w6 (.cells #[b8 k1, b16 k2, b16 k3, b16 k4, .slice sw us.length scw, .slice sb ts.length scb] 26)))
  have HQ7 := Lib.hid ((HQ6.out.below hb).below (below_one w6 (.cells #[b8 k1, b16 k2, b16 k3, b16 k4, .slice sw us.length scw, .slice sb ts.length scb] 26)))
  have HS7 := Lib.hid (AskAt.below hP (below_one w6 (.cells #[b8 k1, b16 k2, b16 k3, b16 k4, .slice sw us.length scw, .slice sb ts.length scb] 26)))
  have HX7 := Lib.hid (row_on (row_on HX6.out hb) (below_one w6 (.cells #[b8 k1, b16 k2, b16 k3, b16 k4, .slice sw us.length scw, .slice sb ts.length scb] 26)))
  have HY7 := Lib.hid (row_on (row_on HY6.out hb) (below_one w6 (.cells #[b8 k1, b16 k2, b16 k3, b16 k4, .slice sw us.length scw, .slice sb ts.length scb] 26)))
  have HZ7 := Lib.hid (heap_alloc_new w6 (.cells #[b8 k1, b16 k2, b16 k3, b16 k4, .slice sw us.length scw, .slice sb ts.length scb] 26))
  have HRL2 := Lib.hid (HRL.out _ K7.out)
  clear hP hb HLK K6 HP6 HQ6 HX6 HY6 HRL
  go_wp2_with fail
  refine HRL2.out.mono ?_
  rintro e w7 ⟨tw, tcw, tb, tcb, rfl, hP, hb, -⟩
  have K8 := Lib.hid ((K7.out.on hb).on (below_one w7 (.cells #[b8 k1, b16 k2, b16 k3, b16 k4, .slice tw us.length tcw, .slice tb ts.length tcb] 26)))
  have HP8 := Lib.hid ((HP7.out.below hb).below (below_one w7 (.cells #[b8 k1, b16 k2, b16 k3, b16 k4, .slice tw us.length tcw, .slice tb ts.length tcb] 26)))
  have HQ8 := Lib.hid ((HQ7.out.below hb).below (below_one w7 (.cells #[b8 k1, b16 k2, b16 k3, b16 k4, .slice tw us.length tcw, .slice tb ts.length tcb] 26)))
  have HS8 := Lib.hid ((HS7.out.below hb).below (below_one w7 (.cells #[b8 k1, b16 k2, b16 k3, b16 k4, .slice tw us.length tcw, .slice tb ts.length tcb] 26)))
  have HT8 := Lib.hid (AskAt.below hP (below_one w7 (.cells #[b8 k1, b16 k2, b16 k3, b16 k4, .slice tw us.length tcw, .slice tb ts.length tcb] 26)))
  have HX8 := Lib.hid (row_on (row_on HX7.out hb) (below_one w7 (.cells #[b8 k1, b16 k2, b16 k3, b16 k4, .slice tw us.length tcw, .slice tb ts.length tcb] 26)))
  have HY8 := Lib.hid (row_on (row_on HY7.out hb) (below_one w7 (.cells #[b8 k1, b16 k2, b16 k3, b16 k4, .slice tw us.length tcw, .slice tb ts.length tcb] 26)))
  have HZ8 := Lib.hid (row_on (row_on HZ7.out hb) (below_one w7 (.cells #[b8 k1, b16 k2, b16 k3, b16 k4, .slice tw us.length tcw, .slice tb ts.length tcb] 26)))
  have HV8 := Lib.hid (heap_alloc_new w7 (.cells #[b8 k1, b16 k2, b16 k3, b16 k4, .slice tw us.length tcw, .slice tb ts.length tcb] 26))
  clear hP hb HRL2 K7 HP7 HQ7 HS7 HX7 HY7 HZ7
  have hx8 := fun o => cell_of_row _ _ o _ _ _ HX8.out
  have hy8 := fun o => cell_of_row _ _ o _ _ _ HY8.out
  have hzz8 := fun o => cell_of_row _ _ o _ _ _ HZ8.out
  have hv8 := fun o => cell_of_row _ _ o _ _ _ HV8.out
  have tev : (ev != ev) = false := by simp
  have tlk : ((lk : Int) != (lk : Int)) = false := by simp
  have HSA := Lib.hid (rSame_any ⟨g1, g2, g3, g4, qs, rs⟩ ⟨g1, g2, g3, g4, qs, rs⟩ _ _ _ _ _ _ _ _ _ HP8.out HQ8.out)
  rw [decide_eq_true rfl] at HSA
  go_wp2_with fail
  refine HSA.out.mono ?_
  rintro e w9 ⟨rfl, hb⟩
  have K9 := Lib.hid (K8.out.on hb)
  have hz9 := fun o => cell_of_row _ _ o _ _ _ (row_on HZ8.out hb)
  have hv9 := fun o => cell_of_row _ _ o _ _ _ (row_on HV8.out hb)
  have HSB := Lib.hid (rSame_any ⟨k1, k2, k3, k4, us, ts⟩ ⟨k1, k2, k3, k4, us, ts⟩ _ _ _ _ _ _ _ _ _ (HS8.out.below hb) (HT8.out.below hb))
  rw [decide_eq_true rfl] at HSB
  clear hb HSA hx8 hy8 hzz8 hv8 K8 HP8 HQ8 HS8 HT8 HX8 HY8 HZ8 HV8
  go_wp2_with fail
  refine HSB.out.mono ?_
  rintro e w10 ⟨rfl, hb⟩
  have K10 := Lib.hid (K9.out.on hb)
  clear hb HSB hz9 hv9 K9
  go_wp2_with fail
  have hk10 : w10.cell? ⟨w.heap.size, 5, none⟩ = some (.slice ab bs.length cb) := K10.out.box.one 5
  have K10d := Lib.hid (show TK w w10.drew #[b8 f1, b16 a1, b16 m1, b16 t1, .slice aw ws.length cw, .slice ab bs.length cb] #[b8 f2, b16 a2, b16 m2, b16 t2, .slice ow vs.length dw, .slice ob ds.length db] b n c p d l from K10.out.on (below_drawn (Below.refl _ w10) 1))
  have hk10d : w10.drew.cell? ⟨w.heap.size, 5, none⟩ = some (.slice ab bs.length cb) := hk10
  have HPK := Lib.hid (fun W (h : TK w W #[b8 f1, b16 a1, b16 m1, b16 t1, .slice aw ws.length cw, .slice ab bs.length cb] #[b8 f2, b16 a2, b16 m2, b16 t2, .slice ow vs.length dw, .slice ob ds.length db] b n c p d l) => Pack_any ab bs.length cb bs W (HA.out.below h.box.below).bits HW.out.2.1)
  have HRPK := Lib.hid (fun W (h : TK w W #[b8 f1, b16 a1, b16 m1, b16 t1, .slice aw ws.length cw, .slice ab bs.length cb] #[b8 f2, b16 a2, b16 m2, b16 t2, .slice ow vs.length dw, .slice ob ds.length db] b n c p d l) => rPack_any ab bs.length cb bs W (HA.out.below h.box.below).bits HW.out.2.1)
  have HUN := Lib.hid (fun W (h : TK w W #[b8 f1, b16 a1, b16 m1, b16 t1, .slice aw ws.length cw, .slice ab bs.length cb] #[b8 f2, b16 a2, b16 m2, b16 t2, .slice ow vs.length dw, .slice ob ds.length db] b n c p d l) => Unpack_any p n d l W h.ii (by omega))
  have HRU := Lib.hid (fun W (h : TK w W #[b8 f1, b16 a1, b16 m1, b16 t1, .slice aw ws.length cw, .slice ab bs.length cb] #[b8 f2, b16 a2, b16 m2, b16 t2, .slice ow vs.length dw, .slice ob ds.length db] b n c p d l) => rUnpack_any b n c l W h.bb (by omega))
  have HSL := Lib.hid (fun W (h : TK w W #[b8 f1, b16 a1, b16 m1, b16 t1, .slice aw ws.length cw, .slice ab bs.length cb] #[b8 f2, b16 a2, b16 m2, b16 t2, .slice ow vs.length dw, .slice ob ds.length db] b n c p d l) => (by have h2 := LowSame_any _ _ _ _ _ _ _ _ _ _ W h.ii h.bb; rw [decide_eq_true rfl] at h2; exact h2 : Calls Try.prog 14 #[.slice p n d, .slice b n c] W (SaysD (.bool true) W)))
  go_region_held3 (fun w' => w'.cell? ⟨w.heap.size, 5, none⟩ = some (.slice ab bs.length cb))
    (first
      | with_reducible exact hk10
      | with_reducible exact hk10d
      | with_reducible exact hkA
      | with_reducible exact hkB
      | with_reducible exact hkC
      | with_reducible exact hkD
      | with_reducible exact hkE
      | with_reducible exact hkF
      | with_reducible exact hkG
      | with_reducible exact hkH
      | with_reducible exact hkI
      | with_reducible exact hkZ
      | go_keep)
    (first
      | (revert K10d; intro K10d; go_at_call 19; (with_reducible refine (HPK.out _ K10d.out).mono ?_); rintro e wA ⟨aA, cA, rfl, hswA, hbwA, -⟩; have KA := Lib.hid (K10d.out.on hbwA); have hkA : wA.cell? ⟨w.heap.size, 5, none⟩ = some (.slice ab bs.length cb) := KA.out.box.one 5; have HSA1 := Lib.hid hswA; clear hswA hbwA K10d)
      | (revert K10d; intro K10d; go_at_call 20; (with_reducible refine (HRPK.out _ K10d.out).mono ?_); rintro e wB ⟨aB, cB, rfl, hswB, hbwB, -⟩; have KB := Lib.hid (K10d.out.on hbwB); have hkB : wB.cell? ⟨w.heap.size, 5, none⟩ = some (.slice ab bs.length cb) := KB.out.box.one 5; have HSB1 := Lib.hid hswB; clear hswB hbwB K10d)
      | (revert KA; intro KA; go_at_call 20; (with_reducible refine (HRPK.out _ KA.out).mono ?_); rintro e wC ⟨aB, cB, rfl, hswC, hbwC, -⟩; have KC := Lib.hid (KA.out.on hbwC); have hkC : wC.cell? ⟨w.heap.size, 5, none⟩ = some (.slice ab bs.length cb) := KC.out.box.one 5; have HSAME := Lib.hid (LowSame_any _ _ _ _ _ _ _ _ _ _ wC (Sl.onn HSA1.out hbwC) hswC); rw [decide_eq_true rfl] at HSAME; clear hswC hbwC KA)
      | (revert KB; intro KB; go_at_call 19; (with_reducible refine (HPK.out _ KB.out).mono ?_); rintro e wC ⟨aA, cA, rfl, hswC, hbwC, -⟩; have KC := Lib.hid (KB.out.on hbwC); have hkC : wC.cell? ⟨w.heap.size, 5, none⟩ = some (.slice ab bs.length cb) := KC.out.box.one 5; have HSAME := Lib.hid (LowSame_any _ _ _ _ _ _ _ _ _ _ wC hswC (Sl.onn HSB1.out hbwC)); rw [decide_eq_true rfl] at HSAME; clear hswC hbwC KB)
      | (revert HSAME; intro HSAME; go_at_call 14; (with_reducible refine HSAME.out.mono ?_); rintro e w' ⟨rfl, qC, rfl⟩; have KD := Lib.hid (KC.out.on (below_drawn (Below.refl _ wC) qC)); have hkD : (wC.drewN qC).cell? ⟨w.heap.size, 5, none⟩ = some (.slice ab bs.length cb) := KD.out.box.one 5; clear HSAME KC)
      | (revert KD; intro KD; go_at_call 22; (with_reducible refine (HUN.out _ KD.out).mono ?_); rintro e wE ⟨aE, cE, rfl, hswE, hbwE, -⟩; have KE := Lib.hid (KD.out.on hbwE); have hkE : wE.cell? ⟨w.heap.size, 5, none⟩ = some (.slice ab bs.length cb) := KE.out.box.one 5; have HSE1 := Lib.hid hswE; clear hswE hbwE KD)
      | (revert KD; intro KD; go_at_call 23; (with_reducible refine (HRU.out _ KD.out).mono ?_); rintro e wF ⟨aF, cF, rfl, hswF, hbwF, -⟩; have KF := Lib.hid (KD.out.on hbwF); have hkF : wF.cell? ⟨w.heap.size, 5, none⟩ = some (.slice ab bs.length cb) := KF.out.box.one 5; have HSF1 := Lib.hid hswF; clear hswF hbwF KD)
      | (revert KE; intro KE; go_at_call 23; (with_reducible refine (HRU.out _ KE.out).mono ?_); rintro e wG ⟨aF, cF, rfl, hswG, hbwG, -⟩; have KG := Lib.hid (KE.out.on hbwG); have hkG : wG.cell? ⟨w.heap.size, 5, none⟩ = some (.slice ab bs.length cb) := KG.out.box.one 5; have HBITS := Lib.hid (LowBits_any _ _ _ _ _ _ _ _ _ _ wG (Sl.onn HSE1.out hbwG) hswG); rw [decide_eq_true rfl] at HBITS; clear hswG hbwG KE)
      | (revert KF; intro KF; go_at_call 22; (with_reducible refine (HUN.out _ KF.out).mono ?_); rintro e wG ⟨aE, cE, rfl, hswG, hbwG, -⟩; have KG := Lib.hid (KF.out.on hbwG); have hkG : wG.cell? ⟨w.heap.size, 5, none⟩ = some (.slice ab bs.length cb) := KG.out.box.one 5; have HBITS := Lib.hid (LowBits_any _ _ _ _ _ _ _ _ _ _ wG hswG (Sl.onn HSF1.out hbwG)); rw [decide_eq_true rfl] at HBITS; clear hswG hbwG KF)
      | (revert HBITS; intro HBITS; go_at_call 21; (with_reducible refine HBITS.out.mono ?_); rintro e w' ⟨rfl, qG, rfl⟩; have KH := Lib.hid (KG.out.on (below_drawn (Below.refl _ wG) qG)); have hkH : (wG.drewN qG).cell? ⟨w.heap.size, 5, none⟩ = some (.slice ab bs.length cb) := KH.out.box.one 5; clear HBITS)
      | (revert KH; intro KH; go_at_call 14; (with_reducible refine (HSL.out _ KH.out).mono ?_); rintro e w' ⟨rfl, qH, rfl⟩; have KI := Lib.hid (show TK w (wG.drewN (qG + qH)) #[b8 f1, b16 a1, b16 m1, b16 t1, .slice aw ws.length cw, .slice ab bs.length cb] #[b8 f2, b16 a2, b16 m2, b16 t2, .slice ow vs.length dw, .slice ob ds.length db] b n c p d l from KG.out.on (below_drawn (Below.refl _ wG) (qG + qH))); have hkI : (wG.drewN (qG + qH)).cell? ⟨w.heap.size, 5, none⟩ = some (.slice ab bs.length cb) := KI.out.box.one 5; clear KH)
      | (revert KI; intro KI; go_at_call 7; (with_reducible refine (awake_any (wG.drewN (qG + qH))).mono ?_); rintro e wZ ⟨rfl, hbZ⟩; have KZ := Lib.hid (KI.out.on hbZ); have hkZ := KZ.out.box.one 5; clear hbZ KI))
  all_goals
    go_wp2_with fail
    go_ret
    exact Says.mk KZ.out.box.below
end Go.Proofs.Ytenfcpdoingdeaa.RefW
