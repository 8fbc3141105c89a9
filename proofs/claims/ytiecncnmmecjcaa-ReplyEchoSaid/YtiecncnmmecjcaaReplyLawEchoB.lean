/- The law ReplyEcho, walked: functions 5 and 6. -/
import Derived.Test.YtiecncnmmecjcaaReplyLawEcho
open Go.RowKit
namespace Go.Proofs.Ytiecncnmmecjcaa.ReplyW
open AskM ReplyM AskW Mem

set_option maxRecDepth 100000 in
set_option maxHeartbeats 40000000 in
theorem ReplyEcho_5 (a : Req) (aw : Option Addr) (cw : Nat) (ab : Option Addr) (cb : Nat) (r : Rep) (ow : Option Addr) (dw : Nat) (ob : Option Addr) (db : Nat) (x : UInt8) (w : World) (hA : AskAt w w.heap.size a aw cw ab cb) (hR : RepAt w w.heap.size r ow dw ob db) (h1 : a.words.length ≤ 200 ∧ a.bits.length ≤ 2100) (h2 : r.words.length ≤ 200 ∧ r.bits.length ≤ 2100) (hrf : rightN a = true) (q : Rep) (hec : echoN a = some q) (hw : a.fn.toNat = 5) :
    Calls Try.prog 6 #[askV a aw cw ab cb, repV r ow dw ob db, b8 x] w (Says (.bool true) w) := by
  have l1 := len_le hA.words
  have l2 := len_le hA.bits
  have l3 := len_le hR.words
  have l4 := len_le hR.bits
  have HA := Lib.hid hA
  have HR := Lib.hid hR
  clear hA hR
  obtain ⟨f1, a1, m1, t1, ws, bs⟩ := a
  obtain ⟨f2, x2, ds, vs, a2, m2⟩ := r
  have hf8 := f1.toNat_lt
  have hx8 := x.toNat_lt
  simp only at l1 l2 l3 l4 h1 h2
  have hx1 := Lib.hid (few_true h1.1 h1.2)
  have hx2 := Lib.hid (few_true h2.1 h2.2)
  have hws : ws.length ≤ 1000000 := by omega
  have hbs : bs.length ≤ 1000000 := by omega
  have HBX0 : Hid (Boxed w #[.int .u8 (f1.toNat : Int), .int .u16 (a1.toNat : Int), .int .u16 (m1.toNat : Int), .int .u16 (t1.toNat : Int), .slice aw ws.length cw, .slice ab bs.length cb] #[.int .u8 (f2.toNat : Int), .int .u8 (x2.toNat : Int), .slice ob ds.length db, .slice ow vs.length dw, .int .u16 (a2.toNat : Int), .int .u16 (m2.toNat : Int)] 26 48 ((w.alloc (.cells #[.int .u8 (f1.toNat : Int), .int .u16 (a1.toNat : Int), .int .u16 (m1.toNat : Int), .int .u16 (t1.toNat : Int), .slice aw ws.length cw, .slice ab bs.length cb] 26)).alloc (.cells #[.int .u8 (f2.toNat : Int), .int .u8 (x2.toNat : Int), .slice ob ds.length db, .slice ow vs.length dw, .int .u16 (a2.toNat : Int), .int .u16 (m2.toNat : Int)] 48))) := Lib.hid (Below.refl _ _)
  have hEC := fun (W : World) (h : Below w.heap.size w W) => Echo_any ⟨f1, a1, m1, t1, ws, bs⟩ aw cw ab cb W (HA.out.below h) hws hbs
  clear h1 h2
  have HRF := Lib.hid hrf
  have hFO := fits_other hrf
  have hFW := fun y => fits_wrong hrf y
  simp only at hFO hFW
  have HFO := Lib.hid hFO
  have HFWA := Lib.hid hFW
  have hEW := echo_writes hrf
  have hER := fun q => echo_right hrf (q := q)
  have hEF := fun q (hq : echoN ⟨f1, a1, m1, t1, ws, bs⟩ = some q) r (hx : r.ex.toNat = 0) => fits_echo hrf hq (r := r) hx
  clear hrf hFO hFW
  obtain ⟨f3, x3, es, us, a3, m3⟩ := q
  have hr := hER _ hec
  have hFQ := hEF _ hec ⟨f3, x3, es, us, a3, m3⟩ (by rw [hr.2.2.2]; rfl)
  rw [decide_eq_true rfl] at hFQ
  have hZ := fun h => hEF _ hec ⟨f2, x2, ds, vs, a2, m2⟩ h
  obtain ⟨z5, hz5⟩ : ∃ z, decide ((⟨f3, x3, es, us, a3, m3⟩ : Rep) = ⟨f2, x2, ds, vs, a2, m2⟩) = z := ⟨_, rfl⟩
  have HZ5A : Hid (x2.toNat = 0 → decide ((⟨f3, x3, es, us, a3, m3⟩ : Rep) = ⟨f2, x2, ds, vs, a2, m2⟩) = z5 ∧ fitsN ⟨f1, a1, m1, t1, ws, bs⟩ ⟨f2, x2, ds, vs, a2, m2⟩ = z5) := Lib.hid (fun h => ⟨hz5, (hZ h).trans hz5⟩)
  have HER := Lib.hid hr
  have HFQ := Lib.hid hFQ
  have HEC := Lib.hid hec
  have j1 : ((f3.toNat : Int) == (f1.toNat : Int)) = true := by have : f3 = f1 := hr.2.1; rw [this]; simp
  have j2 : ((a3.toNat : Int) == (a1.toNat : Int)) = true := by have : a3 = a1 := hr.2.2.1; rw [this]; simp
  clear hEW hER hEF hec hr hFQ hZ hz5
  simp only at hw

  have k5 : ((f1.toNat : Int) == 5) = true := by simp; omega
  clear hw
  go_enter Try.func6, Try.ntmps6
  go_wp2_with fail
  refine (Few_any _ _ _ _ _ _ _ l1 l2).mono ?_
  rintro e w1 ⟨rfl, rfl⟩
  rw [hx1.out]
  go_wp2_with fail
  refine (Few_any _ _ _ _ _ _ _ l3 l4).mono ?_
  rintro e w1 ⟨rfl, rfl⟩
  rw [hx2.out]
  have C1 := HBX0.out.one
  have C2 := HBX0.out.two
  generalize (w.alloc (.cells #[.int .u8 (f1.toNat : Int), .int .u16 (a1.toNat : Int), .int .u16 (m1.toNat : Int), .int .u16 (t1.toNat : Int), .slice aw ws.length cw, .slice ab bs.length cb] 26)).alloc (.cells #[.int .u8 (f2.toNat : Int), .int .u8 (x2.toNat : Int), .slice ob ds.length db, .slice ow vs.length dw, .int .u16 (a2.toNat : Int), .int .u16 (m2.toNat : Int)] 48) = W0 at *
  go_wp2_with fail
  have hEC1 := hEC W0 HBX0.out.below
  rw [HEC.out] at hEC1
  have HEC1 := Lib.hid hEC1
  clear hEC1 hEC
  refine HEC1.out.mono ?_
  rintro e w1 ⟨pw, dpw, pb, dpb, rfl, hP, hb1, -⟩
  have HBX1 : Hid (Boxed w #[.int .u8 (f1.toNat : Int), .int .u16 (a1.toNat : Int), .int .u16 (m1.toNat : Int), .int .u16 (t1.toNat : Int), .slice aw ws.length cw, .slice ab bs.length cb] #[.int .u8 (f2.toNat : Int), .int .u8 (x2.toNat : Int), .slice ob ds.length db, .slice ow vs.length dw, .int .u16 (a2.toNat : Int), .int .u16 (m2.toNat : Int)] 26 48 w1) := Lib.hid (HBX0.out.on (hb1.mono HBX0.out.size))
  have HP1 := Lib.hid hP
  clear hb1 hP HEC1 C1 C2 HBX0
  simp only [Option.getD_some, Option.isSome_some]
  have D1 := fun (X : Obj) (o : Nat) => (World.cell?_alloc_lt w1 X ⟨w.heap.size, o, none⟩ (by have := HBX1.out.size; show w.heap.size < _; omega)).trans (HBX1.out.one o)
  go_wp2_with fail
  rw [mod6 x]
  generalize x % 6 = y at *
  clear D1
  have HR7 := Lib.hid (heap_alloc_new w1 (.cells #[.int .u8 (f3.toNat : Int), .int .u8 (x3.toNat : Int), .slice pb es.length dpb, .slice pw us.length dpw, .int .u16 (a3.toNat : Int), .int .u16 (m3.toNat : Int)] 48))
  have HBA := Lib.hid ((Below.refl w1.heap.size w1).alloc (Nat.le_refl _) (.cells #[.int .u8 (f3.toNat : Int), .int .u8 (x3.toNat : Int), .slice pb es.length dpb, .slice pw us.length dpw, .int .u16 (a3.toNat : Int), .int .u16 (m3.toNat : Int)] 48))
  have HZ1 : Hid ((w1.alloc (.cells #[.int .u8 (f3.toNat : Int), .int .u8 (x3.toNat : Int), .slice pb es.length dpb, .slice pw us.length dpw, .int .u16 (a3.toNat : Int), .int .u16 (m3.toNat : Int)] 48)).heap.size = w1.heap.size + 1) := Lib.hid (by simp)
  generalize w1.alloc (.cells #[.int .u8 (f3.toNat : Int), .int .u8 (x3.toNat : Int), .slice pb es.length dpb, .slice pw us.length dpw, .int .u16 (a3.toNat : Int), .int .u16 (m3.toNat : Int)] 48) = W1 at *
  refine (Wrong_at f1 y W1).mono ?_
  rintro e w2 ⟨rfl, hb2⟩
  have HBX2 : Hid (Boxed w #[.int .u8 (f1.toNat : Int), .int .u16 (a1.toNat : Int), .int .u16 (m1.toNat : Int), .int .u16 (t1.toNat : Int), .slice aw ws.length cw, .slice ab bs.length cb] #[.int .u8 (f2.toNat : Int), .int .u8 (x2.toNat : Int), .slice ob ds.length db, .slice ow vs.length dw, .int .u16 (a2.toNat : Int), .int .u16 (m2.toNat : Int)] 26 48 w2) := Lib.hid ((HBX1.out.on (HBA.out.mono HBX1.out.size)).on (hb2.mono (by have := HBX1.out.size; have := HZ1.out; omega)))
  have HR72 := Lib.hid ((hb2.block w1.heap.size (by have := HZ1.out; omega)).trans HR7.out)
  have HP2 := Lib.hid ((HP1.out.up HBA.out (Nat.le_refl _)).up hb2 (Nat.le_refl _))
  have HL7 : Hid (w1.heap.size < w2.heap.size) := Lib.hid (by have := hb2.size; have := HZ1.out; omega)
  have HG7 : Hid (w.heap.size + 2 ≤ w1.heap.size) := Lib.hid HBX1.out.size
  clear hb2 HR7 HBA HZ1 HP1 HBX1
  have D1 := fun (X : Obj) (o : Nat) => (World.cell?_alloc_lt w2 X ⟨w.heap.size, o, none⟩ (by have := HBX2.out.size; show w.heap.size < _; omega)).trans (HBX2.out.one o)
  go_wp2_with fail
  clear D1
  have HR10 := Lib.hid (heap_alloc_new w2 (.cells #[.int .u8 ((f1 % 128 : UInt8).toNat : Int), .int .u8 (y.toNat : Int), .slice none 0 0, .slice none 0 0, .int .u16 0, .int .u16 0] 48))
  have HBA := Lib.hid ((Below.refl w2.heap.size w2).alloc (Nat.le_refl _) (.cells #[.int .u8 ((f1 % 128 : UInt8).toNat : Int), .int .u8 (y.toNat : Int), .slice none 0 0, .slice none 0 0, .int .u16 0, .int .u16 0] 48))
  have HZ2 : Hid ((w2.alloc (.cells #[.int .u8 ((f1 % 128 : UInt8).toNat : Int), .int .u8 (y.toNat : Int), .slice none 0 0, .slice none 0 0, .int .u16 0, .int .u16 0] 48)).heap.size = w2.heap.size + 1) := Lib.hid (by simp)
  change Calls _ _ _ (w2.alloc (.cells #[.int .u8 ((f1 % 128 : UInt8).toNat : Int), .int .u8 (y.toNat : Int), .slice none 0 0, .slice none 0 0, .int .u16 0, .int .u16 0] 48)) _
  generalize w2.alloc (.cells #[.int .u8 ((f1 % 128 : UInt8).toNat : Int), .int .u8 (y.toNat : Int), .slice none 0 0, .slice none 0 0, .int .u16 0, .int .u16 0] 48) = W2 at *
  refine (Right_any ⟨f1, a1, m1, t1, ws, bs⟩ aw cw ab cb W2 hws hbs).mono ?_
  rw [HRF.out]
  rintro e w3 ⟨rfl, hb3⟩
  have HBX : Hid (Boxed w #[.int .u8 (f1.toNat : Int), .int .u16 (a1.toNat : Int), .int .u16 (m1.toNat : Int), .int .u16 (t1.toNat : Int), .slice aw ws.length cw, .slice ab bs.length cb] #[.int .u8 (f2.toNat : Int), .int .u8 (x2.toNat : Int), .slice ob ds.length db, .slice ow vs.length dw, .int .u16 (a2.toNat : Int), .int .u16 (m2.toNat : Int)] 26 48 w3) := Lib.hid ((HBX2.out.on (HBA.out.mono HBX2.out.size)).on (hb3.mono (by have := HBX2.out.size; have := HZ2.out; omega)))
  have HG10 : Hid (w2.heap.size < w3.heap.size) := Lib.hid (by have := hb3.size; have := HZ2.out; omega)
  have HR7 : ∀ W, Below w3.heap.size w3 W → W.heap[w1.heap.size]? = some (.cells #[.int .u8 (f3.toNat : Int), .int .u8 (x3.toNat : Int), .slice pb es.length dpb, .slice pw us.length dpw, .int .u16 (a3.toNat : Int), .int .u16 (m3.toNat : Int)] 48 (0, 0)) := fun W h => (h.block w1.heap.size (by have := HL7.out; have := HG10.out; omega)).trans ((hb3.block w1.heap.size (by have := HL7.out; have := HZ2.out; omega)).trans ((HBA.out.block w1.heap.size HL7.out).trans HR72.out))
  have HRX : ∀ W, Below w3.heap.size w3 W → W.heap[w2.heap.size]? = some (.cells #[.int .u8 ((f1 % 128 : UInt8).toNat : Int), .int .u8 (y.toNat : Int), .slice none 0 0, .slice none 0 0, .int .u16 0, .int .u16 0] 48 (0, 0)) := fun W h => (h.block w2.heap.size HG10.out).trans ((hb3.block w2.heap.size (by have := HZ2.out; omega)).trans HR10.out)
  have HP := Lib.hid ((HP2.out.up HBA.out (Nat.le_refl _)).up hb3 (Nat.le_refl _))
  have HRA : ∀ W, Below w3.heap.size w3 W → W.heap[w.heap.size]? = some (.cells #[.int .u8 (f1.toNat : Int), .int .u16 (a1.toNat : Int), .int .u16 (m1.toNat : Int), .int .u16 (t1.toNat : Int), .slice aw ws.length cw, .slice ab bs.length cb] 26 (0, 0)) := fun W h => (h.block w.heap.size (by have := HBX.out.size; omega)).trans (Boxed.h1 HBX.out)
  have HRR : ∀ W, Below w3.heap.size w3 W → W.heap[w.heap.size + 1]? = some (.cells #[.int .u8 (f2.toNat : Int), .int .u8 (x2.toNat : Int), .slice ob ds.length db, .slice ow vs.length dw, .int .u16 (a2.toNat : Int), .int .u16 (m2.toNat : Int)] 48 (0, 0)) := fun W h => (h.block (w.heap.size + 1) (by have := HBX.out.size; omega)).trans (Boxed.h2 HBX.out)
  have HAT : ∀ W, Below w3.heap.size w3 W → AskAt W W.heap.size ⟨f1, a1, m1, t1, ws, bs⟩ aw cw ab cb := fun W h => (HA.out.below HBX.out.below).below h
  have HRT : ∀ W, Below w3.heap.size w3 W → RepAt W W.heap.size ⟨f2, x2, ds, vs, a2, m2⟩ ow dw ob db := fun W h => (HR.out.below HBX.out.below).below h
  have hB3 := Below.refl w3.heap.size w3
  clear hb3 HR10 HBA HZ2 HP2 HR72 HBX2
  by_cases hy : 1 ≤ y.toNat
  · obtain ⟨q2, hq2⟩ : ∃ q2, decide (y.toNat ≤ 4) = q2 := ⟨_, rfl⟩
    have HQ2 : Hid (decide ((y.toNat : Int) ≤ 4) = q2) := Lib.hid (by rw [← hq2, Bool.eq_iff_iff, decide_eq_true_eq, decide_eq_true_eq]; omega)
    have HFW : Hid (fitsN ⟨f1, a1, m1, t1, ws, bs⟩ (wrongN f1 y) = q2) := Lib.hid (by rw [HFWA.out y, hq2, decide_eq_true hy, Bool.true_and])
    clear hq2
    by_cases hx20 : x2.toNat = 0
    · have HZ5 := Lib.hid (HZ5A.out hx20)
      have C1 := fun i => cell_of_row _ _ i _ _ _ (HRA w3 hB3)
      go_wp2_with fail
      clear C1
      have HF1 : ∀ W, Below w3.heap.size w3 W → Calls Try.prog 41 #[.agg #[.int .u8 (f1.toNat : Int), .int .u16 (a1.toNat : Int), .int .u16 (m1.toNat : Int), .int .u16 (t1.toNat : Int), .slice aw ws.length cw, .slice ab bs.length cb], .agg #[.int .u8 ((f1 % 128 : UInt8).toNat : Int), .int .u8 (y.toNat : Int), .slice none 0 0, .slice none 0 0, .int .u16 0, .int .u16 0]] W fun e W' => e = .returned (.bool q2) ∧ Below w3.heap.size w3 W' := fun W h => (Fits_at _ _ ⟨f1, a1, m1, t1, ws, bs⟩ aw cw ab cb (wrongN f1 y) none 0 none 0 W rfl rfl (HAT W h) ⟨Sl.none_, Sl.none_⟩ hws hbs HFW.out).mono fun _ _ ⟨he, hb⟩ => ⟨he, h.trans (hb.mono h.size)⟩
      have HWR : ∀ W, Below w3.heap.size w3 W → Calls Try.prog 40 #[.int .u8 ((f1 + 1 : UInt8).toNat : Int), .int .u8 1] W fun e W' => e = .returned (.agg #[.int .u8 (((f1 + 1) % 128 : UInt8).toNat : Int), .int .u8 1, .slice none 0 0, .slice none 0 0, .int .u16 0, .int .u16 0]) ∧ Below w3.heap.size w3 W' := fun W h => (Wrong_any (f1 + 1) 1 W).mono fun _ _ ⟨he, hb⟩ => ⟨he, h.trans (hb.mono h.size)⟩
      have HF2 : ∀ W, Below w3.heap.size w3 W → Calls Try.prog 41 #[.agg #[.int .u8 (f1.toNat : Int), .int .u16 (a1.toNat : Int), .int .u16 (m1.toNat : Int), .int .u16 (t1.toNat : Int), .slice aw ws.length cw, .slice ab bs.length cb], .agg #[.int .u8 (((f1 + 1) % 128 : UInt8).toNat : Int), .int .u8 1, .slice none 0 0, .slice none 0 0, .int .u16 0, .int .u16 0]] W fun e W' => e = .returned (.bool false) ∧ Below w3.heap.size w3 W' := fun W h => (Fits_at _ _ ⟨f1, a1, m1, t1, ws, bs⟩ aw cw ab cb (wrongN (f1 + 1) 1) none 0 none 0 W rfl rfl (HAT W h) ⟨Sl.none_, Sl.none_⟩ hws hbs HFO.out).mono fun _ _ ⟨he, hb⟩ => ⟨he, h.trans (hb.mono h.size)⟩
      have HF3 : ∀ W, Below w3.heap.size w3 W → Calls Try.prog 41 #[.agg #[.int .u8 (f1.toNat : Int), .int .u16 (a1.toNat : Int), .int .u16 (m1.toNat : Int), .int .u16 (t1.toNat : Int), .slice aw ws.length cw, .slice ab bs.length cb], .agg #[.int .u8 (f3.toNat : Int), .int .u8 (x3.toNat : Int), .slice pb es.length dpb, .slice pw us.length dpw, .int .u16 (a3.toNat : Int), .int .u16 (m3.toNat : Int)]] W fun e W' => e = .returned (.bool true) ∧ Below w3.heap.size w3 W' := fun W h => (Fits_at _ _ ⟨f1, a1, m1, t1, ws, bs⟩ aw cw ab cb ⟨f3, x3, es, us, a3, m3⟩ pw dpw pb dpb W rfl rfl (HAT W h) (HP.out.below h) hws hbs HFQ.out).mono fun _ _ ⟨he, hb⟩ => ⟨he, h.trans (hb.mono h.size)⟩
      refine region_quiet (fun W => Below w3.heap.size w3 W) (by kernel_rfl) (by kernel_rfl) (hB3).drew ?_
      intro ops Q' hops hQ
      refine QP.val (.bool true) (by rfl) (fun wC hC => runq_move rfl (by kernel_rfl)) ?_
      refine QP.val (.bool true) (by rfl) (fun wC hC => runq_move rfl (by kernel_rfl)) ?_
      refine QP.val (.bool false) (by rfl) (fun wC hC => runq_neqb (p := true) (q := true) Try.underlying4 rfl (by kernel_rfl) (by kernel_rfl) rfl) ?_
      refine QP.val (.bool false) (by rfl) (fun wC hC => runq_move rfl (by kernel_rfl)) ?_
      refine QP.val (.agg #[.int .u8 (f1.toNat : Int), .int .u16 (a1.toNat : Int), .int .u16 (m1.toNat : Int), .int .u16 (t1.toNat : Int), .slice aw ws.length cw, .slice ab bs.length cb]) (wantedq (j := 3) (d := 79) (want := false) (b := false) rfl (by rw [hops.out]; rfl) (by kernel_rfl) rfl) (fun wC hC => runq_load_row (t := 26) (g := w.heap.size) (fr := (0, 0)) rfl (by kernel_rfl) (HRA wC hC) Try.underlying26 rfl (by kernel_rfl)) ?_
      refine QP.val (.agg #[.int .u8 ((f1 % 128 : UInt8).toNat : Int), .int .u8 (y.toNat : Int), .slice none 0 0, .slice none 0 0, .int .u16 0, .int .u16 0]) (wantedq (j := 3) (d := 79) (want := false) (b := false) rfl (by rw [hops.out]; rfl) (by kernel_rfl) rfl) (fun wC hC => runq_load_row (t := 48) (g := w2.heap.size) (fr := (0, 0)) rfl (by kernel_rfl) (HRX wC hC) Try.underlying48 rfl (by kernel_rfl)) ?_
      refine QP.call 41 #[.agg #[.int .u8 (f1.toNat : Int), .int .u16 (a1.toNat : Int), .int .u16 (m1.toNat : Int), .int .u16 (t1.toNat : Int), .slice aw ws.length cw, .slice ab bs.length cb], .agg #[.int .u8 ((f1 % 128 : UInt8).toNat : Int), .int .u8 (y.toNat : Int), .slice none 0 0, .slice none 0 0, .int .u16 0, .int .u16 0]] (.bool q2) (wantedq (j := 3) (d := 79) (want := false) (b := false) rfl (by rw [hops.out]; rfl) (by kernel_rfl) rfl) (fun wC hC => (congrArg (fun s => Sem.run Try.prog s wC) (by kernel_rfl)).trans (enters_fits #[.agg #[.int .u8 (f1.toNat : Int), .int .u16 (a1.toNat : Int), .int .u16 (m1.toNat : Int), .int .u16 (t1.toNat : Int), .slice aw ws.length cw, .slice ab bs.length cb], .agg #[.int .u8 ((f1 % 128 : UInt8).toNat : Int), .int .u8 (y.toNat : Int), .slice none 0 0, .slice none 0 0, .int .u16 0, .int .u16 0]] wC)) (fun wC hC => HF1 wC hC) ?_
      refine QP.val (.int .u8 (y.toNat : Int)) (wantedq (j := 3) (d := 79) (want := false) (b := false) rfl (by rw [hops.out]; rfl) (by kernel_rfl) rfl) (fun wC hC => runq_move rfl (by kernel_rfl)) ?_
      refine QP.val (.bool true) (wantedq (j := 3) (d := 79) (want := false) (b := false) rfl (by rw [hops.out]; rfl) (by kernel_rfl) rfl) (fun wC hC => runq_geq (k := .u8) (p := (y.toNat : Int)) (q := 1) rfl (by kernel_rfl) (by kernel_rfl) (by simp; omega)) ?_
      refine QP.val (.bool true) (wantedq (j := 3) (d := 79) (want := false) (b := false) rfl (by rw [hops.out]; rfl) (by kernel_rfl) rfl) (fun wC hC => runq_move rfl (by kernel_rfl)) ?_
      refine QP.val (.int .u8 (y.toNat : Int)) (wantedq (j := 9) (d := 85) (want := true) (b := true) rfl (by rw [hops.out]; rfl) (by kernel_rfl) rfl) (fun wC hC => runq_move rfl (by kernel_rfl)) ?_
      refine QP.val (.bool q2) (wantedq (j := 9) (d := 85) (want := true) (b := true) rfl (by rw [hops.out]; rfl) (by kernel_rfl) rfl) (fun wC hC => runq_leq (k := .u8) (p := (y.toNat : Int)) (q := 4) rfl (by kernel_rfl) (by kernel_rfl) HQ2.out) ?_
      refine QP.val (.bool q2) (wantedq (j := 3) (d := 79) (want := false) (b := false) rfl (by rw [hops.out]; rfl) (by kernel_rfl) rfl) (fun wC hC => runq_pick (c := true) rfl (by kernel_rfl) (by kernel_rfl)) ?_
      refine QP.val (.bool false) (wantedq (j := 3) (d := 79) (want := false) (b := false) rfl (by rw [hops.out]; rfl) (by kernel_rfl) rfl) (fun wC hC => runq_neqb (p := q2) (q := q2) Try.underlying4 rfl (by kernel_rfl) (by kernel_rfl) (by simp)) ?_
      refine QP.val (.bool false) (by rfl) (fun wC hC => runq_pick (c := false) rfl (by kernel_rfl) (by kernel_rfl)) ?_
      refine QP.val (.bool false) (by rfl) (fun wC hC => runq_move rfl (by kernel_rfl)) ?_
      refine QP.val (.agg #[.int .u8 (f1.toNat : Int), .int .u16 (a1.toNat : Int), .int .u16 (m1.toNat : Int), .int .u16 (t1.toNat : Int), .slice aw ws.length cw, .slice ab bs.length cb]) (wantedq (j := 15) (d := 91) (want := false) (b := false) rfl (by rw [hops.out]; rfl) (by kernel_rfl) rfl) (fun wC hC => runq_load_row (t := 26) (g := w.heap.size) (fr := (0, 0)) rfl (by kernel_rfl) (HRA wC hC) Try.underlying26 rfl (by kernel_rfl)) ?_
      refine QP.val (.pointer (some ⟨w.heap.size, 0, none⟩)) (wantedq (j := 15) (d := 91) (want := false) (b := false) rfl (by rw [hops.out]; rfl) (by kernel_rfl) rfl) (fun wC hC => by kernel_rfl) ?_
      refine QP.val (.int .u8 (f1.toNat : Int)) (wantedq (j := 15) (d := 91) (want := false) (b := false) rfl (by rw [hops.out]; rfl) (by kernel_rfl) rfl) (fun wC hC => runq_load_int (p := ⟨w.heap.size, 0, none⟩) rfl (by kernel_rfl) (cell_of_row _ _ 0 _ _ _ (HRA wC hC)) Try.underlying5) ?_
      refine QP.val (.int .u8 ((f1 + 1 : UInt8).toNat : Int)) (wantedq (j := 15) (d := 91) (want := false) (b := false) rfl (by rw [hops.out]; rfl) (by kernel_rfl) rfl) (fun wC hC => runq_add (k := .u8) (p := (f1.toNat : Int)) (q := 1) rfl (by kernel_rfl) (by kernel_rfl) (add_one8 f1)) ?_
      refine QP.call 40 #[.int .u8 ((f1 + 1 : UInt8).toNat : Int), .int .u8 1] (.agg #[.int .u8 (((f1 + 1) % 128 : UInt8).toNat : Int), .int .u8 1, .slice none 0 0, .slice none 0 0, .int .u16 0, .int .u16 0]) (wantedq (j := 15) (d := 91) (want := false) (b := false) rfl (by rw [hops.out]; rfl) (by kernel_rfl) rfl) (fun wC hC => (congrArg (fun s => Sem.run Try.prog s wC) (by kernel_rfl)).trans (enters_wrong #[.int .u8 ((f1 + 1 : UInt8).toNat : Int), .int .u8 1] wC)) (fun wC hC => HWR wC hC) ?_
      refine QP.call 41 #[.agg #[.int .u8 (f1.toNat : Int), .int .u16 (a1.toNat : Int), .int .u16 (m1.toNat : Int), .int .u16 (t1.toNat : Int), .slice aw ws.length cw, .slice ab bs.length cb], .agg #[.int .u8 (((f1 + 1) % 128 : UInt8).toNat : Int), .int .u8 1, .slice none 0 0, .slice none 0 0, .int .u16 0, .int .u16 0]] (.bool false) (wantedq (j := 15) (d := 91) (want := false) (b := false) rfl (by rw [hops.out]; rfl) (by kernel_rfl) rfl) (fun wC hC => (congrArg (fun s => Sem.run Try.prog s wC) (by kernel_rfl)).trans (enters_fits #[.agg #[.int .u8 (f1.toNat : Int), .int .u16 (a1.toNat : Int), .int .u16 (m1.toNat : Int), .int .u16 (t1.toNat : Int), .slice aw ws.length cw, .slice ab bs.length cb], .agg #[.int .u8 (((f1 + 1) % 128 : UInt8).toNat : Int), .int .u8 1, .slice none 0 0, .slice none 0 0, .int .u16 0, .int .u16 0]] wC)) (fun wC hC => HF2 wC hC) ?_
      refine QP.val (.bool false) (by rfl) (fun wC hC => runq_pick (c := false) rfl (by kernel_rfl) (by kernel_rfl)) ?_
      refine QP.val (.bool false) (by rfl) (fun wC hC => runq_move rfl (by kernel_rfl)) ?_
      refine QP.val (.bool true) (wantedq (j := 23) (d := 99) (want := false) (b := false) rfl (by rw [hops.out]; rfl) (by kernel_rfl) rfl) (fun wC hC => runq_move rfl (by kernel_rfl)) ?_
      refine QP.val (.bool true) (wantedq (j := 23) (d := 99) (want := false) (b := false) rfl (by rw [hops.out]; rfl) (by kernel_rfl) rfl) (fun wC hC => runq_move rfl (by kernel_rfl)) ?_
      refine QP.val (.agg #[.int .u8 (f1.toNat : Int), .int .u16 (a1.toNat : Int), .int .u16 (m1.toNat : Int), .int .u16 (t1.toNat : Int), .slice aw ws.length cw, .slice ab bs.length cb]) (wantedq (j := 25) (d := 101) (want := true) (b := true) rfl (by rw [hops.out]; rfl) (by kernel_rfl) rfl) (fun wC hC => runq_load_row (t := 26) (g := w.heap.size) (fr := (0, 0)) rfl (by kernel_rfl) (HRA wC hC) Try.underlying26 rfl (by kernel_rfl)) ?_
      refine QP.val (.agg #[.int .u8 (f3.toNat : Int), .int .u8 (x3.toNat : Int), .slice pb es.length dpb, .slice pw us.length dpw, .int .u16 (a3.toNat : Int), .int .u16 (m3.toNat : Int)]) (wantedq (j := 25) (d := 101) (want := true) (b := true) rfl (by rw [hops.out]; rfl) (by kernel_rfl) rfl) (fun wC hC => runq_load_row (t := 48) (g := w1.heap.size) (fr := (0, 0)) rfl (by kernel_rfl) (HR7 wC hC) Try.underlying48 rfl (by kernel_rfl)) ?_
      refine QP.call 41 #[.agg #[.int .u8 (f1.toNat : Int), .int .u16 (a1.toNat : Int), .int .u16 (m1.toNat : Int), .int .u16 (t1.toNat : Int), .slice aw ws.length cw, .slice ab bs.length cb], .agg #[.int .u8 (f3.toNat : Int), .int .u8 (x3.toNat : Int), .slice pb es.length dpb, .slice pw us.length dpw, .int .u16 (a3.toNat : Int), .int .u16 (m3.toNat : Int)]] (.bool true) (wantedq (j := 25) (d := 101) (want := true) (b := true) rfl (by rw [hops.out]; rfl) (by kernel_rfl) rfl) (fun wC hC => (congrArg (fun s => Sem.run Try.prog s wC) (by kernel_rfl)).trans (enters_fits #[.agg #[.int .u8 (f1.toNat : Int), .int .u16 (a1.toNat : Int), .int .u16 (m1.toNat : Int), .int .u16 (t1.toNat : Int), .slice aw ws.length cw, .slice ab bs.length cb], .agg #[.int .u8 (f3.toNat : Int), .int .u8 (x3.toNat : Int), .slice pb es.length dpb, .slice pw us.length dpw, .int .u16 (a3.toNat : Int), .int .u16 (m3.toNat : Int)]] wC)) (fun wC hC => HF3 wC hC) ?_
      refine QP.val (.bool false) (wantedq (j := 25) (d := 101) (want := true) (b := true) rfl (by rw [hops.out]; rfl) (by kernel_rfl) rfl) (fun wC hC => runq_not (c := true) rfl (by kernel_rfl) rfl) ?_
      refine QP.val (.bool false) (wantedq (j := 23) (d := 99) (want := false) (b := false) rfl (by rw [hops.out]; rfl) (by kernel_rfl) rfl) (fun wC hC => runq_pick (c := true) rfl (by kernel_rfl) (by kernel_rfl)) ?_
      refine QP.val (.bool false) (by rfl) (fun wC hC => runq_pick (c := false) rfl (by kernel_rfl) (by kernel_rfl)) ?_
      refine QP.nil (hQ.out _ fun w8 hCw8 => ?_)
      simp only [Act.put, List.setIfInBounds_toArray, List.set_cons_succ, List.set_cons_zero]
      clear hops hQ HF1 HWR HF2 HF3
      go_wp2_with fail
      have HF4 : ∀ W, Below w3.heap.size w3 W → Calls Try.prog 41 #[.agg #[.int .u8 (f1.toNat : Int), .int .u16 (a1.toNat : Int), .int .u16 (m1.toNat : Int), .int .u16 (t1.toNat : Int), .slice aw ws.length cw, .slice ab bs.length cb], .agg #[.int .u8 (f2.toNat : Int), .int .u8 (x2.toNat : Int), .slice ob ds.length db, .slice ow vs.length dw, .int .u16 (a2.toNat : Int), .int .u16 (m2.toNat : Int)]] W fun e W' => e = .returned (.bool z5) ∧ Below w3.heap.size w3 W' := fun W h => (Fits_at _ _ ⟨f1, a1, m1, t1, ws, bs⟩ aw cw ab cb ⟨f2, x2, ds, vs, a2, m2⟩ ow dw ob db W rfl rfl (HAT W h) (HRT W h) hws hbs HZ5.out.2).mono fun _ _ ⟨he, hb⟩ => ⟨he, h.trans (hb.mono h.size)⟩
      have HS5 : ∀ W, Below w3.heap.size w3 W → Calls Try.prog 36 #[.agg #[.int .u8 (f3.toNat : Int), .int .u8 (x3.toNat : Int), .slice pb es.length dpb, .slice pw us.length dpw, .int .u16 (a3.toNat : Int), .int .u16 (m3.toNat : Int)], .agg #[.int .u8 (f2.toNat : Int), .int .u8 (x2.toNat : Int), .slice ob ds.length db, .slice ow vs.length dw, .int .u16 (a2.toNat : Int), .int .u16 (m2.toNat : Int)]] W fun e W' => e = .returned (.bool z5) ∧ Below w3.heap.size w3 W' := fun W h => (RSame_at _ _ ⟨f3, x3, es, us, a3, m3⟩ ⟨f2, x2, ds, vs, a2, m2⟩ pw dpw pb dpb ow dw ob db W rfl rfl (HP.out.below h) (HRT W h)).mono fun _ _ ⟨he, hb⟩ => ⟨by rw [he, HZ5.out.1], h.trans (hb.mono h.size)⟩
      refine region_quiet (fun W => Below w3.heap.size w3 W) (by kernel_rfl) (by kernel_rfl) (hCw8).drew ?_
      intro ops Q' hops hQ
      refine QP.val (.bool true) (by rfl) (fun wC hC => runq_move rfl (by kernel_rfl)) ?_
      refine QP.val (.bool true) (by rfl) (fun wC hC => runq_move rfl (by kernel_rfl)) ?_
      refine QP.val (.pointer (some ⟨w.heap.size + 1, 1, none⟩)) (wantedq (j := 1) (d := 109) (want := true) (b := true) rfl (by rw [hops.out]; rfl) (by kernel_rfl) rfl) (fun wC hC => by kernel_rfl) ?_
      refine QP.val (.int .u8 (x2.toNat : Int)) (wantedq (j := 1) (d := 109) (want := true) (b := true) rfl (by rw [hops.out]; rfl) (by kernel_rfl) rfl) (fun wC hC => runq_load_int (p := ⟨w.heap.size + 1, 1, none⟩) rfl (by kernel_rfl) (cell_of_row _ _ 1 _ _ _ (HRR wC hC)) Try.underlying5) ?_
      refine QP.val (.bool true) (wantedq (j := 1) (d := 109) (want := true) (b := true) rfl (by rw [hops.out]; rfl) (by kernel_rfl) rfl) (fun wC hC => runq_eql (k := .u8) (p := (x2.toNat : Int)) (q := 0) rfl (by kernel_rfl) (by kernel_rfl) (by simp; omega)) ?_
      refine QP.val (.bool true) (by rfl) (fun wC hC => runq_pick (c := true) rfl (by kernel_rfl) (by kernel_rfl)) ?_
      refine QP.val (.bool true) (by rfl) (fun wC hC => runq_move rfl (by kernel_rfl)) ?_
      refine QP.val (.agg #[.int .u8 (f1.toNat : Int), .int .u16 (a1.toNat : Int), .int .u16 (m1.toNat : Int), .int .u16 (t1.toNat : Int), .slice aw ws.length cw, .slice ab bs.length cb]) (wantedq (j := 6) (d := 114) (want := true) (b := true) rfl (by rw [hops.out]; rfl) (by kernel_rfl) rfl) (fun wC hC => runq_load_row (t := 26) (g := w.heap.size) (fr := (0, 0)) rfl (by kernel_rfl) (HRA wC hC) Try.underlying26 rfl (by kernel_rfl)) ?_
      refine QP.val (.agg #[.int .u8 (f2.toNat : Int), .int .u8 (x2.toNat : Int), .slice ob ds.length db, .slice ow vs.length dw, .int .u16 (a2.toNat : Int), .int .u16 (m2.toNat : Int)]) (wantedq (j := 6) (d := 114) (want := true) (b := true) rfl (by rw [hops.out]; rfl) (by kernel_rfl) rfl) (fun wC hC => runq_load_row (t := 48) (g := w.heap.size + 1) (fr := (0, 0)) rfl (by kernel_rfl) (HRR wC hC) Try.underlying48 rfl (by kernel_rfl)) ?_
      refine QP.call 41 #[.agg #[.int .u8 (f1.toNat : Int), .int .u16 (a1.toNat : Int), .int .u16 (m1.toNat : Int), .int .u16 (t1.toNat : Int), .slice aw ws.length cw, .slice ab bs.length cb], .agg #[.int .u8 (f2.toNat : Int), .int .u8 (x2.toNat : Int), .slice ob ds.length db, .slice ow vs.length dw, .int .u16 (a2.toNat : Int), .int .u16 (m2.toNat : Int)]] (.bool z5) (wantedq (j := 6) (d := 114) (want := true) (b := true) rfl (by rw [hops.out]; rfl) (by kernel_rfl) rfl) (fun wC hC => (congrArg (fun s => Sem.run Try.prog s wC) (by kernel_rfl)).trans (enters_fits #[.agg #[.int .u8 (f1.toNat : Int), .int .u16 (a1.toNat : Int), .int .u16 (m1.toNat : Int), .int .u16 (t1.toNat : Int), .slice aw ws.length cw, .slice ab bs.length cb], .agg #[.int .u8 (f2.toNat : Int), .int .u8 (x2.toNat : Int), .slice ob ds.length db, .slice ow vs.length dw, .int .u16 (a2.toNat : Int), .int .u16 (m2.toNat : Int)]] wC)) (fun wC hC => HF4 wC hC) ?_
      refine QP.val (.agg #[.int .u8 (f3.toNat : Int), .int .u8 (x3.toNat : Int), .slice pb es.length dpb, .slice pw us.length dpw, .int .u16 (a3.toNat : Int), .int .u16 (m3.toNat : Int)]) (wantedq (j := 6) (d := 114) (want := true) (b := true) rfl (by rw [hops.out]; rfl) (by kernel_rfl) rfl) (fun wC hC => runq_load_row (t := 48) (g := w1.heap.size) (fr := (0, 0)) rfl (by kernel_rfl) (HR7 wC hC) Try.underlying48 rfl (by kernel_rfl)) ?_
      refine QP.val (.agg #[.int .u8 (f2.toNat : Int), .int .u8 (x2.toNat : Int), .slice ob ds.length db, .slice ow vs.length dw, .int .u16 (a2.toNat : Int), .int .u16 (m2.toNat : Int)]) (wantedq (j := 6) (d := 114) (want := true) (b := true) rfl (by rw [hops.out]; rfl) (by kernel_rfl) rfl) (fun wC hC => runq_load_row (t := 48) (g := w.heap.size + 1) (fr := (0, 0)) rfl (by kernel_rfl) (HRR wC hC) Try.underlying48 rfl (by kernel_rfl)) ?_
      refine QP.call 36 #[.agg #[.int .u8 (f3.toNat : Int), .int .u8 (x3.toNat : Int), .slice pb es.length dpb, .slice pw us.length dpw, .int .u16 (a3.toNat : Int), .int .u16 (m3.toNat : Int)], .agg #[.int .u8 (f2.toNat : Int), .int .u8 (x2.toNat : Int), .slice ob ds.length db, .slice ow vs.length dw, .int .u16 (a2.toNat : Int), .int .u16 (m2.toNat : Int)]] (.bool z5) (wantedq (j := 6) (d := 114) (want := true) (b := true) rfl (by rw [hops.out]; rfl) (by kernel_rfl) rfl) (fun wC hC => (congrArg (fun s => Sem.run Try.prog s wC) (by kernel_rfl)).trans (enters_rsame #[.agg #[.int .u8 (f3.toNat : Int), .int .u8 (x3.toNat : Int), .slice pb es.length dpb, .slice pw us.length dpw, .int .u16 (a3.toNat : Int), .int .u16 (m3.toNat : Int)], .agg #[.int .u8 (f2.toNat : Int), .int .u8 (x2.toNat : Int), .slice ob ds.length db, .slice ow vs.length dw, .int .u16 (a2.toNat : Int), .int .u16 (m2.toNat : Int)]] wC)) (fun wC hC => HS5 wC hC) ?_
      refine QP.val (.bool false) (wantedq (j := 6) (d := 114) (want := true) (b := true) rfl (by rw [hops.out]; rfl) (by kernel_rfl) rfl) (fun wC hC => runq_neqb (p := z5) (q := z5) Try.underlying4 rfl (by kernel_rfl) (by kernel_rfl) (by simp)) ?_
      refine QP.val (.bool false) (by rfl) (fun wC hC => runq_pick (c := true) rfl (by kernel_rfl) (by kernel_rfl)) ?_
      refine QP.nil (hQ.out _ fun w9 hCw9 => ?_)
      simp only [Act.put, List.setIfInBounds_toArray, List.set_cons_succ, List.set_cons_zero]
      clear hops hQ HF4 HS5 hCw8
      have E7 := fun i => cell_of_row _ _ i _ _ _ (HR7 w9 hCw9)
      go_wp2_with fail
      refine (RRight_at _ ⟨f3, x3, es, us, a3, m3⟩ pw dpw pb dpb w9 rfl (HP.out.below hCw9) HER.out.1).mono ?_
      rintro e w10 ⟨rfl, hb10⟩
      clear E7
      have hB10 := hCw9.trans (hb10.mono hCw9.size)
      have E1 := fun i => cell_of_row _ _ i _ _ _ (HRA w10 hB10)
      have E7 := fun i => cell_of_row _ _ i _ _ _ (HR7 w10 hB10)
      have HB8 := Lib.hid (HBX.out.below.trans (hB10.mono HBX.out.below.size))
      clear HR7 HRX HRA HRR HAT HRT hCw9 hB10 hb10
      go_wp2_with fail
      refine (rawake_any _).mono ?_
      rintro e w11 ⟨rfl, hb11⟩
      have HB11 := Lib.hid (HB8.out.trans (hb11.mono HB8.out.size))
      clear E1 E7
      go_wp2_with fail
      go_ret
      exact Says.mk HB11.out
    · have C1 := fun i => cell_of_row _ _ i _ _ _ (HRA w3 hB3)
      go_wp2_with fail
      clear C1
      have HF1 : ∀ W, Below w3.heap.size w3 W → Calls Try.prog 41 #[.agg #[.int .u8 (f1.toNat : Int), .int .u16 (a1.toNat : Int), .int .u16 (m1.toNat : Int), .int .u16 (t1.toNat : Int), .slice aw ws.length cw, .slice ab bs.length cb], .agg #[.int .u8 ((f1 % 128 : UInt8).toNat : Int), .int .u8 (y.toNat : Int), .slice none 0 0, .slice none 0 0, .int .u16 0, .int .u16 0]] W fun e W' => e = .returned (.bool q2) ∧ Below w3.heap.size w3 W' := fun W h => (Fits_at _ _ ⟨f1, a1, m1, t1, ws, bs⟩ aw cw ab cb (wrongN f1 y) none 0 none 0 W rfl rfl (HAT W h) ⟨Sl.none_, Sl.none_⟩ hws hbs HFW.out).mono fun _ _ ⟨he, hb⟩ => ⟨he, h.trans (hb.mono h.size)⟩
      have HWR : ∀ W, Below w3.heap.size w3 W → Calls Try.prog 40 #[.int .u8 ((f1 + 1 : UInt8).toNat : Int), .int .u8 1] W fun e W' => e = .returned (.agg #[.int .u8 (((f1 + 1) % 128 : UInt8).toNat : Int), .int .u8 1, .slice none 0 0, .slice none 0 0, .int .u16 0, .int .u16 0]) ∧ Below w3.heap.size w3 W' := fun W h => (Wrong_any (f1 + 1) 1 W).mono fun _ _ ⟨he, hb⟩ => ⟨he, h.trans (hb.mono h.size)⟩
      have HF2 : ∀ W, Below w3.heap.size w3 W → Calls Try.prog 41 #[.agg #[.int .u8 (f1.toNat : Int), .int .u16 (a1.toNat : Int), .int .u16 (m1.toNat : Int), .int .u16 (t1.toNat : Int), .slice aw ws.length cw, .slice ab bs.length cb], .agg #[.int .u8 (((f1 + 1) % 128 : UInt8).toNat : Int), .int .u8 1, .slice none 0 0, .slice none 0 0, .int .u16 0, .int .u16 0]] W fun e W' => e = .returned (.bool false) ∧ Below w3.heap.size w3 W' := fun W h => (Fits_at _ _ ⟨f1, a1, m1, t1, ws, bs⟩ aw cw ab cb (wrongN (f1 + 1) 1) none 0 none 0 W rfl rfl (HAT W h) ⟨Sl.none_, Sl.none_⟩ hws hbs HFO.out).mono fun _ _ ⟨he, hb⟩ => ⟨he, h.trans (hb.mono h.size)⟩
      have HF3 : ∀ W, Below w3.heap.size w3 W → Calls Try.prog 41 #[.agg #[.int .u8 (f1.toNat : Int), .int .u16 (a1.toNat : Int), .int .u16 (m1.toNat : Int), .int .u16 (t1.toNat : Int), .slice aw ws.length cw, .slice ab bs.length cb], .agg #[.int .u8 (f3.toNat : Int), .int .u8 (x3.toNat : Int), .slice pb es.length dpb, .slice pw us.length dpw, .int .u16 (a3.toNat : Int), .int .u16 (m3.toNat : Int)]] W fun e W' => e = .returned (.bool true) ∧ Below w3.heap.size w3 W' := fun W h => (Fits_at _ _ ⟨f1, a1, m1, t1, ws, bs⟩ aw cw ab cb ⟨f3, x3, es, us, a3, m3⟩ pw dpw pb dpb W rfl rfl (HAT W h) (HP.out.below h) hws hbs HFQ.out).mono fun _ _ ⟨he, hb⟩ => ⟨he, h.trans (hb.mono h.size)⟩
      refine region_quiet (fun W => Below w3.heap.size w3 W) (by kernel_rfl) (by kernel_rfl) (hB3).drew ?_
      intro ops Q' hops hQ
      refine QP.val (.bool true) (by rfl) (fun wC hC => runq_move rfl (by kernel_rfl)) ?_
      refine QP.val (.bool true) (by rfl) (fun wC hC => runq_move rfl (by kernel_rfl)) ?_
      refine QP.val (.bool false) (by rfl) (fun wC hC => runq_neqb (p := true) (q := true) Try.underlying4 rfl (by kernel_rfl) (by kernel_rfl) rfl) ?_
      refine QP.val (.bool false) (by rfl) (fun wC hC => runq_move rfl (by kernel_rfl)) ?_
      refine QP.val (.agg #[.int .u8 (f1.toNat : Int), .int .u16 (a1.toNat : Int), .int .u16 (m1.toNat : Int), .int .u16 (t1.toNat : Int), .slice aw ws.length cw, .slice ab bs.length cb]) (wantedq (j := 3) (d := 79) (want := false) (b := false) rfl (by rw [hops.out]; rfl) (by kernel_rfl) rfl) (fun wC hC => runq_load_row (t := 26) (g := w.heap.size) (fr := (0, 0)) rfl (by kernel_rfl) (HRA wC hC) Try.underlying26 rfl (by kernel_rfl)) ?_
      refine QP.val (.agg #[.int .u8 ((f1 % 128 : UInt8).toNat : Int), .int .u8 (y.toNat : Int), .slice none 0 0, .slice none 0 0, .int .u16 0, .int .u16 0]) (wantedq (j := 3) (d := 79) (want := false) (b := false) rfl (by rw [hops.out]; rfl) (by kernel_rfl) rfl) (fun wC hC => runq_load_row (t := 48) (g := w2.heap.size) (fr := (0, 0)) rfl (by kernel_rfl) (HRX wC hC) Try.underlying48 rfl (by kernel_rfl)) ?_
      refine QP.call 41 #[.agg #[.int .u8 (f1.toNat : Int), .int .u16 (a1.toNat : Int), .int .u16 (m1.toNat : Int), .int .u16 (t1.toNat : Int), .slice aw ws.length cw, .slice ab bs.length cb], .agg #[.int .u8 ((f1 % 128 : UInt8).toNat : Int), .int .u8 (y.toNat : Int), .slice none 0 0, .slice none 0 0, .int .u16 0, .int .u16 0]] (.bool q2) (wantedq (j := 3) (d := 79) (want := false) (b := false) rfl (by rw [hops.out]; rfl) (by kernel_rfl) rfl) (fun wC hC => (congrArg (fun s => Sem.run Try.prog s wC) (by kernel_rfl)).trans (enters_fits #[.agg #[.int .u8 (f1.toNat : Int), .int .u16 (a1.toNat : Int), .int .u16 (m1.toNat : Int), .int .u16 (t1.toNat : Int), .slice aw ws.length cw, .slice ab bs.length cb], .agg #[.int .u8 ((f1 % 128 : UInt8).toNat : Int), .int .u8 (y.toNat : Int), .slice none 0 0, .slice none 0 0, .int .u16 0, .int .u16 0]] wC)) (fun wC hC => HF1 wC hC) ?_
      refine QP.val (.int .u8 (y.toNat : Int)) (wantedq (j := 3) (d := 79) (want := false) (b := false) rfl (by rw [hops.out]; rfl) (by kernel_rfl) rfl) (fun wC hC => runq_move rfl (by kernel_rfl)) ?_
      refine QP.val (.bool true) (wantedq (j := 3) (d := 79) (want := false) (b := false) rfl (by rw [hops.out]; rfl) (by kernel_rfl) rfl) (fun wC hC => runq_geq (k := .u8) (p := (y.toNat : Int)) (q := 1) rfl (by kernel_rfl) (by kernel_rfl) (by simp; omega)) ?_
      refine QP.val (.bool true) (wantedq (j := 3) (d := 79) (want := false) (b := false) rfl (by rw [hops.out]; rfl) (by kernel_rfl) rfl) (fun wC hC => runq_move rfl (by kernel_rfl)) ?_
      refine QP.val (.int .u8 (y.toNat : Int)) (wantedq (j := 9) (d := 85) (want := true) (b := true) rfl (by rw [hops.out]; rfl) (by kernel_rfl) rfl) (fun wC hC => runq_move rfl (by kernel_rfl)) ?_
      refine QP.val (.bool q2) (wantedq (j := 9) (d := 85) (want := true) (b := true) rfl (by rw [hops.out]; rfl) (by kernel_rfl) rfl) (fun wC hC => runq_leq (k := .u8) (p := (y.toNat : Int)) (q := 4) rfl (by kernel_rfl) (by kernel_rfl) HQ2.out) ?_
      refine QP.val (.bool q2) (wantedq (j := 3) (d := 79) (want := false) (b := false) rfl (by rw [hops.out]; rfl) (by kernel_rfl) rfl) (fun wC hC => runq_pick (c := true) rfl (by kernel_rfl) (by kernel_rfl)) ?_
      refine QP.val (.bool false) (wantedq (j := 3) (d := 79) (want := false) (b := false) rfl (by rw [hops.out]; rfl) (by kernel_rfl) rfl) (fun wC hC => runq_neqb (p := q2) (q := q2) Try.underlying4 rfl (by kernel_rfl) (by kernel_rfl) (by simp)) ?_
      refine QP.val (.bool false) (by rfl) (fun wC hC => runq_pick (c := false) rfl (by kernel_rfl) (by kernel_rfl)) ?_
      refine QP.val (.bool false) (by rfl) (fun wC hC => runq_move rfl (by kernel_rfl)) ?_
      refine QP.val (.agg #[.int .u8 (f1.toNat : Int), .int .u16 (a1.toNat : Int), .int .u16 (m1.toNat : Int), .int .u16 (t1.toNat : Int), .slice aw ws.length cw, .slice ab bs.length cb]) (wantedq (j := 15) (d := 91) (want := false) (b := false) rfl (by rw [hops.out]; rfl) (by kernel_rfl) rfl) (fun wC hC => runq_load_row (t := 26) (g := w.heap.size) (fr := (0, 0)) rfl (by kernel_rfl) (HRA wC hC) Try.underlying26 rfl (by kernel_rfl)) ?_
      refine QP.val (.pointer (some ⟨w.heap.size, 0, none⟩)) (wantedq (j := 15) (d := 91) (want := false) (b := false) rfl (by rw [hops.out]; rfl) (by kernel_rfl) rfl) (fun wC hC => by kernel_rfl) ?_
      refine QP.val (.int .u8 (f1.toNat : Int)) (wantedq (j := 15) (d := 91) (want := false) (b := false) rfl (by rw [hops.out]; rfl) (by kernel_rfl) rfl) (fun wC hC => runq_load_int (p := ⟨w.heap.size, 0, none⟩) rfl (by kernel_rfl) (cell_of_row _ _ 0 _ _ _ (HRA wC hC)) Try.underlying5) ?_
      refine QP.val (.int .u8 ((f1 + 1 : UInt8).toNat : Int)) (wantedq (j := 15) (d := 91) (want := false) (b := false) rfl (by rw [hops.out]; rfl) (by kernel_rfl) rfl) (fun wC hC => runq_add (k := .u8) (p := (f1.toNat : Int)) (q := 1) rfl (by kernel_rfl) (by kernel_rfl) (add_one8 f1)) ?_
      refine QP.call 40 #[.int .u8 ((f1 + 1 : UInt8).toNat : Int), .int .u8 1] (.agg #[.int .u8 (((f1 + 1) % 128 : UInt8).toNat : Int), .int .u8 1, .slice none 0 0, .slice none 0 0, .int .u16 0, .int .u16 0]) (wantedq (j := 15) (d := 91) (want := false) (b := false) rfl (by rw [hops.out]; rfl) (by kernel_rfl) rfl) (fun wC hC => (congrArg (fun s => Sem.run Try.prog s wC) (by kernel_rfl)).trans (enters_wrong #[.int .u8 ((f1 + 1 : UInt8).toNat : Int), .int .u8 1] wC)) (fun wC hC => HWR wC hC) ?_
      refine QP.call 41 #[.agg #[.int .u8 (f1.toNat : Int), .int .u16 (a1.toNat : Int), .int .u16 (m1.toNat : Int), .int .u16 (t1.toNat : Int), .slice aw ws.length cw, .slice ab bs.length cb], .agg #[.int .u8 (((f1 + 1) % 128 : UInt8).toNat : Int), .int .u8 1, .slice none 0 0, .slice none 0 0, .int .u16 0, .int .u16 0]] (.bool false) (wantedq (j := 15) (d := 91) (want := false) (b := false) rfl (by rw [hops.out]; rfl) (by kernel_rfl) rfl) (fun wC hC => (congrArg (fun s => Sem.run Try.prog s wC) (by kernel_rfl)).trans (enters_fits #[.agg #[.int .u8 (f1.toNat : Int), .int .u16 (a1.toNat : Int), .int .u16 (m1.toNat : Int), .int .u16 (t1.toNat : Int), .slice aw ws.length cw, .slice ab bs.length cb], .agg #[.int .u8 (((f1 + 1) % 128 : UInt8).toNat : Int), .int .u8 1, .slice none 0 0, .slice none 0 0, .int .u16 0, .int .u16 0]] wC)) (fun wC hC => HF2 wC hC) ?_
      refine QP.val (.bool false) (by rfl) (fun wC hC => runq_pick (c := false) rfl (by kernel_rfl) (by kernel_rfl)) ?_
      refine QP.val (.bool false) (by rfl) (fun wC hC => runq_move rfl (by kernel_rfl)) ?_
      refine QP.val (.bool true) (wantedq (j := 23) (d := 99) (want := false) (b := false) rfl (by rw [hops.out]; rfl) (by kernel_rfl) rfl) (fun wC hC => runq_move rfl (by kernel_rfl)) ?_
      refine QP.val (.bool true) (wantedq (j := 23) (d := 99) (want := false) (b := false) rfl (by rw [hops.out]; rfl) (by kernel_rfl) rfl) (fun wC hC => runq_move rfl (by kernel_rfl)) ?_
      refine QP.val (.agg #[.int .u8 (f1.toNat : Int), .int .u16 (a1.toNat : Int), .int .u16 (m1.toNat : Int), .int .u16 (t1.toNat : Int), .slice aw ws.length cw, .slice ab bs.length cb]) (wantedq (j := 25) (d := 101) (want := true) (b := true) rfl (by rw [hops.out]; rfl) (by kernel_rfl) rfl) (fun wC hC => runq_load_row (t := 26) (g := w.heap.size) (fr := (0, 0)) rfl (by kernel_rfl) (HRA wC hC) Try.underlying26 rfl (by kernel_rfl)) ?_
      refine QP.val (.agg #[.int .u8 (f3.toNat : Int), .int .u8 (x3.toNat : Int), .slice pb es.length dpb, .slice pw us.length dpw, .int .u16 (a3.toNat : Int), .int .u16 (m3.toNat : Int)]) (wantedq (j := 25) (d := 101) (want := true) (b := true) rfl (by rw [hops.out]; rfl) (by kernel_rfl) rfl) (fun wC hC => runq_load_row (t := 48) (g := w1.heap.size) (fr := (0, 0)) rfl (by kernel_rfl) (HR7 wC hC) Try.underlying48 rfl (by kernel_rfl)) ?_
      refine QP.call 41 #[.agg #[.int .u8 (f1.toNat : Int), .int .u16 (a1.toNat : Int), .int .u16 (m1.toNat : Int), .int .u16 (t1.toNat : Int), .slice aw ws.length cw, .slice ab bs.length cb], .agg #[.int .u8 (f3.toNat : Int), .int .u8 (x3.toNat : Int), .slice pb es.length dpb, .slice pw us.length dpw, .int .u16 (a3.toNat : Int), .int .u16 (m3.toNat : Int)]] (.bool true) (wantedq (j := 25) (d := 101) (want := true) (b := true) rfl (by rw [hops.out]; rfl) (by kernel_rfl) rfl) (fun wC hC => (congrArg (fun s => Sem.run Try.prog s wC) (by kernel_rfl)).trans (enters_fits #[.agg #[.int .u8 (f1.toNat : Int), .int .u16 (a1.toNat : Int), .int .u16 (m1.toNat : Int), .int .u16 (t1.toNat : Int), .slice aw ws.length cw, .slice ab bs.length cb], .agg #[.int .u8 (f3.toNat : Int), .int .u8 (x3.toNat : Int), .slice pb es.length dpb, .slice pw us.length dpw, .int .u16 (a3.toNat : Int), .int .u16 (m3.toNat : Int)]] wC)) (fun wC hC => HF3 wC hC) ?_
      refine QP.val (.bool false) (wantedq (j := 25) (d := 101) (want := true) (b := true) rfl (by rw [hops.out]; rfl) (by kernel_rfl) rfl) (fun wC hC => runq_not (c := true) rfl (by kernel_rfl) rfl) ?_
      refine QP.val (.bool false) (wantedq (j := 23) (d := 99) (want := false) (b := false) rfl (by rw [hops.out]; rfl) (by kernel_rfl) rfl) (fun wC hC => runq_pick (c := true) rfl (by kernel_rfl) (by kernel_rfl)) ?_
      refine QP.val (.bool false) (by rfl) (fun wC hC => runq_pick (c := false) rfl (by kernel_rfl) (by kernel_rfl)) ?_
      refine QP.nil (hQ.out _ fun w8 hCw8 => ?_)
      simp only [Act.put, List.setIfInBounds_toArray, List.set_cons_succ, List.set_cons_zero]
      clear hops hQ HF1 HWR HF2 HF3
      go_wp2_with fail
      refine region_quiet (fun W => Below w3.heap.size w3 W) (by kernel_rfl) (by kernel_rfl) (hCw8).drew ?_
      intro ops Q' hops hQ
      refine QP.val (.bool true) (by rfl) (fun wC hC => runq_move rfl (by kernel_rfl)) ?_
      refine QP.val (.bool true) (by rfl) (fun wC hC => runq_move rfl (by kernel_rfl)) ?_
      refine QP.val (.pointer (some ⟨w.heap.size + 1, 1, none⟩)) (wantedq (j := 1) (d := 109) (want := true) (b := true) rfl (by rw [hops.out]; rfl) (by kernel_rfl) rfl) (fun wC hC => by kernel_rfl) ?_
      refine QP.val (.int .u8 (x2.toNat : Int)) (wantedq (j := 1) (d := 109) (want := true) (b := true) rfl (by rw [hops.out]; rfl) (by kernel_rfl) rfl) (fun wC hC => runq_load_int (p := ⟨w.heap.size + 1, 1, none⟩) rfl (by kernel_rfl) (cell_of_row _ _ 1 _ _ _ (HRR wC hC)) Try.underlying5) ?_
      refine QP.val (.bool false) (wantedq (j := 1) (d := 109) (want := true) (b := true) rfl (by rw [hops.out]; rfl) (by kernel_rfl) rfl) (fun wC hC => runq_eql (k := .u8) (p := (x2.toNat : Int)) (q := 0) rfl (by kernel_rfl) (by kernel_rfl) (by simp; omega)) ?_
      refine QP.val (.bool false) (by rfl) (fun wC hC => runq_pick (c := true) rfl (by kernel_rfl) (by kernel_rfl)) ?_
      refine QP.val (.bool false) (by rfl) (fun wC hC => runq_move rfl (by kernel_rfl)) ?_
      refine QP.skip (wantedq (j := 6) (d := 114) (want := true) (b := false) rfl (by rw [hops.out]; rfl) (by kernel_rfl) rfl) ?_
      refine QP.skip (wantedq (j := 6) (d := 114) (want := true) (b := false) rfl (by rw [hops.out]; rfl) (by kernel_rfl) rfl) ?_
      refine QP.skip (wantedq (j := 6) (d := 114) (want := true) (b := false) rfl (by rw [hops.out]; rfl) (by kernel_rfl) rfl) ?_
      refine QP.skip (wantedq (j := 6) (d := 114) (want := true) (b := false) rfl (by rw [hops.out]; rfl) (by kernel_rfl) rfl) ?_
      refine QP.skip (wantedq (j := 6) (d := 114) (want := true) (b := false) rfl (by rw [hops.out]; rfl) (by kernel_rfl) rfl) ?_
      refine QP.skip (wantedq (j := 6) (d := 114) (want := true) (b := false) rfl (by rw [hops.out]; rfl) (by kernel_rfl) rfl) ?_
      refine QP.skip (wantedq (j := 6) (d := 114) (want := true) (b := false) rfl (by rw [hops.out]; rfl) (by kernel_rfl) rfl) ?_
      refine QP.val (.bool false) (by rfl) (fun wC hC => runq_pick (c := false) rfl (by kernel_rfl) (by kernel_rfl)) ?_
      refine QP.nil (hQ.out _ fun w9 hCw9 => ?_)
      simp only [Act.put, List.setIfInBounds_toArray, List.set_cons_succ, List.set_cons_zero]
      clear hops hQ hCw8
      have E7 := fun i => cell_of_row _ _ i _ _ _ (HR7 w9 hCw9)
      go_wp2_with fail
      refine (RRight_at _ ⟨f3, x3, es, us, a3, m3⟩ pw dpw pb dpb w9 rfl (HP.out.below hCw9) HER.out.1).mono ?_
      rintro e w10 ⟨rfl, hb10⟩
      clear E7
      have hB10 := hCw9.trans (hb10.mono hCw9.size)
      have E1 := fun i => cell_of_row _ _ i _ _ _ (HRA w10 hB10)
      have E7 := fun i => cell_of_row _ _ i _ _ _ (HR7 w10 hB10)
      have HB8 := Lib.hid (HBX.out.below.trans (hB10.mono HBX.out.below.size))
      clear HR7 HRX HRA HRR HAT HRT hCw9 hB10 hb10
      go_wp2_with fail
      refine (rawake_any _).mono ?_
      rintro e w11 ⟨rfl, hb11⟩
      have HB11 := Lib.hid (HB8.out.trans (hb11.mono HB8.out.size))
      clear E1 E7
      go_wp2_with fail
      go_ret
      exact Says.mk HB11.out
  · have HFW : Hid (fitsN ⟨f1, a1, m1, t1, ws, bs⟩ (wrongN f1 y) = false) := Lib.hid (by rw [HFWA.out y, decide_eq_false hy, Bool.false_and])
    by_cases hx20 : x2.toNat = 0
    · have HZ5 := Lib.hid (HZ5A.out hx20)
      have C1 := fun i => cell_of_row _ _ i _ _ _ (HRA w3 hB3)
      go_wp2_with fail
      clear C1
      have HF1 : ∀ W, Below w3.heap.size w3 W → Calls Try.prog 41 #[.agg #[.int .u8 (f1.toNat : Int), .int .u16 (a1.toNat : Int), .int .u16 (m1.toNat : Int), .int .u16 (t1.toNat : Int), .slice aw ws.length cw, .slice ab bs.length cb], .agg #[.int .u8 ((f1 % 128 : UInt8).toNat : Int), .int .u8 (y.toNat : Int), .slice none 0 0, .slice none 0 0, .int .u16 0, .int .u16 0]] W fun e W' => e = .returned (.bool false) ∧ Below w3.heap.size w3 W' := fun W h => (Fits_at _ _ ⟨f1, a1, m1, t1, ws, bs⟩ aw cw ab cb (wrongN f1 y) none 0 none 0 W rfl rfl (HAT W h) ⟨Sl.none_, Sl.none_⟩ hws hbs HFW.out).mono fun _ _ ⟨he, hb⟩ => ⟨he, h.trans (hb.mono h.size)⟩
      have HWR : ∀ W, Below w3.heap.size w3 W → Calls Try.prog 40 #[.int .u8 ((f1 + 1 : UInt8).toNat : Int), .int .u8 1] W fun e W' => e = .returned (.agg #[.int .u8 (((f1 + 1) % 128 : UInt8).toNat : Int), .int .u8 1, .slice none 0 0, .slice none 0 0, .int .u16 0, .int .u16 0]) ∧ Below w3.heap.size w3 W' := fun W h => (Wrong_any (f1 + 1) 1 W).mono fun _ _ ⟨he, hb⟩ => ⟨he, h.trans (hb.mono h.size)⟩
      have HF2 : ∀ W, Below w3.heap.size w3 W → Calls Try.prog 41 #[.agg #[.int .u8 (f1.toNat : Int), .int .u16 (a1.toNat : Int), .int .u16 (m1.toNat : Int), .int .u16 (t1.toNat : Int), .slice aw ws.length cw, .slice ab bs.length cb], .agg #[.int .u8 (((f1 + 1) % 128 : UInt8).toNat : Int), .int .u8 1, .slice none 0 0, .slice none 0 0, .int .u16 0, .int .u16 0]] W fun e W' => e = .returned (.bool false) ∧ Below w3.heap.size w3 W' := fun W h => (Fits_at _ _ ⟨f1, a1, m1, t1, ws, bs⟩ aw cw ab cb (wrongN (f1 + 1) 1) none 0 none 0 W rfl rfl (HAT W h) ⟨Sl.none_, Sl.none_⟩ hws hbs HFO.out).mono fun _ _ ⟨he, hb⟩ => ⟨he, h.trans (hb.mono h.size)⟩
      have HF3 : ∀ W, Below w3.heap.size w3 W → Calls Try.prog 41 #[.agg #[.int .u8 (f1.toNat : Int), .int .u16 (a1.toNat : Int), .int .u16 (m1.toNat : Int), .int .u16 (t1.toNat : Int), .slice aw ws.length cw, .slice ab bs.length cb], .agg #[.int .u8 (f3.toNat : Int), .int .u8 (x3.toNat : Int), .slice pb es.length dpb, .slice pw us.length dpw, .int .u16 (a3.toNat : Int), .int .u16 (m3.toNat : Int)]] W fun e W' => e = .returned (.bool true) ∧ Below w3.heap.size w3 W' := fun W h => (Fits_at _ _ ⟨f1, a1, m1, t1, ws, bs⟩ aw cw ab cb ⟨f3, x3, es, us, a3, m3⟩ pw dpw pb dpb W rfl rfl (HAT W h) (HP.out.below h) hws hbs HFQ.out).mono fun _ _ ⟨he, hb⟩ => ⟨he, h.trans (hb.mono h.size)⟩
      refine region_quiet (fun W => Below w3.heap.size w3 W) (by kernel_rfl) (by kernel_rfl) (hB3).drew ?_
      intro ops Q' hops hQ
      refine QP.val (.bool true) (by rfl) (fun wC hC => runq_move rfl (by kernel_rfl)) ?_
      refine QP.val (.bool true) (by rfl) (fun wC hC => runq_move rfl (by kernel_rfl)) ?_
      refine QP.val (.bool false) (by rfl) (fun wC hC => runq_neqb (p := true) (q := true) Try.underlying4 rfl (by kernel_rfl) (by kernel_rfl) rfl) ?_
      refine QP.val (.bool false) (by rfl) (fun wC hC => runq_move rfl (by kernel_rfl)) ?_
      refine QP.val (.agg #[.int .u8 (f1.toNat : Int), .int .u16 (a1.toNat : Int), .int .u16 (m1.toNat : Int), .int .u16 (t1.toNat : Int), .slice aw ws.length cw, .slice ab bs.length cb]) (wantedq (j := 3) (d := 79) (want := false) (b := false) rfl (by rw [hops.out]; rfl) (by kernel_rfl) rfl) (fun wC hC => runq_load_row (t := 26) (g := w.heap.size) (fr := (0, 0)) rfl (by kernel_rfl) (HRA wC hC) Try.underlying26 rfl (by kernel_rfl)) ?_
      refine QP.val (.agg #[.int .u8 ((f1 % 128 : UInt8).toNat : Int), .int .u8 (y.toNat : Int), .slice none 0 0, .slice none 0 0, .int .u16 0, .int .u16 0]) (wantedq (j := 3) (d := 79) (want := false) (b := false) rfl (by rw [hops.out]; rfl) (by kernel_rfl) rfl) (fun wC hC => runq_load_row (t := 48) (g := w2.heap.size) (fr := (0, 0)) rfl (by kernel_rfl) (HRX wC hC) Try.underlying48 rfl (by kernel_rfl)) ?_
      refine QP.call 41 #[.agg #[.int .u8 (f1.toNat : Int), .int .u16 (a1.toNat : Int), .int .u16 (m1.toNat : Int), .int .u16 (t1.toNat : Int), .slice aw ws.length cw, .slice ab bs.length cb], .agg #[.int .u8 ((f1 % 128 : UInt8).toNat : Int), .int .u8 (y.toNat : Int), .slice none 0 0, .slice none 0 0, .int .u16 0, .int .u16 0]] (.bool false) (wantedq (j := 3) (d := 79) (want := false) (b := false) rfl (by rw [hops.out]; rfl) (by kernel_rfl) rfl) (fun wC hC => (congrArg (fun s => Sem.run Try.prog s wC) (by kernel_rfl)).trans (enters_fits #[.agg #[.int .u8 (f1.toNat : Int), .int .u16 (a1.toNat : Int), .int .u16 (m1.toNat : Int), .int .u16 (t1.toNat : Int), .slice aw ws.length cw, .slice ab bs.length cb], .agg #[.int .u8 ((f1 % 128 : UInt8).toNat : Int), .int .u8 (y.toNat : Int), .slice none 0 0, .slice none 0 0, .int .u16 0, .int .u16 0]] wC)) (fun wC hC => HF1 wC hC) ?_
      refine QP.val (.int .u8 (y.toNat : Int)) (wantedq (j := 3) (d := 79) (want := false) (b := false) rfl (by rw [hops.out]; rfl) (by kernel_rfl) rfl) (fun wC hC => runq_move rfl (by kernel_rfl)) ?_
      refine QP.val (.bool false) (wantedq (j := 3) (d := 79) (want := false) (b := false) rfl (by rw [hops.out]; rfl) (by kernel_rfl) rfl) (fun wC hC => runq_geq (k := .u8) (p := (y.toNat : Int)) (q := 1) rfl (by kernel_rfl) (by kernel_rfl) (by simp; omega)) ?_
      refine QP.val (.bool false) (wantedq (j := 3) (d := 79) (want := false) (b := false) rfl (by rw [hops.out]; rfl) (by kernel_rfl) rfl) (fun wC hC => runq_move rfl (by kernel_rfl)) ?_
      refine QP.skip (wantedq (j := 9) (d := 85) (want := true) (b := false) rfl (by rw [hops.out]; rfl) (by kernel_rfl) rfl) ?_
      refine QP.skip (wantedq (j := 9) (d := 85) (want := true) (b := false) rfl (by rw [hops.out]; rfl) (by kernel_rfl) rfl) ?_
      refine QP.val (.bool false) (wantedq (j := 3) (d := 79) (want := false) (b := false) rfl (by rw [hops.out]; rfl) (by kernel_rfl) rfl) (fun wC hC => runq_pick (c := false) rfl (by kernel_rfl) (by kernel_rfl)) ?_
      refine QP.val (.bool false) (wantedq (j := 3) (d := 79) (want := false) (b := false) rfl (by rw [hops.out]; rfl) (by kernel_rfl) rfl) (fun wC hC => runq_neqb (p := false) (q := false) Try.underlying4 rfl (by kernel_rfl) (by kernel_rfl) rfl) ?_
      refine QP.val (.bool false) (by rfl) (fun wC hC => runq_pick (c := false) rfl (by kernel_rfl) (by kernel_rfl)) ?_
      refine QP.val (.bool false) (by rfl) (fun wC hC => runq_move rfl (by kernel_rfl)) ?_
      refine QP.val (.agg #[.int .u8 (f1.toNat : Int), .int .u16 (a1.toNat : Int), .int .u16 (m1.toNat : Int), .int .u16 (t1.toNat : Int), .slice aw ws.length cw, .slice ab bs.length cb]) (wantedq (j := 15) (d := 91) (want := false) (b := false) rfl (by rw [hops.out]; rfl) (by kernel_rfl) rfl) (fun wC hC => runq_load_row (t := 26) (g := w.heap.size) (fr := (0, 0)) rfl (by kernel_rfl) (HRA wC hC) Try.underlying26 rfl (by kernel_rfl)) ?_
      refine QP.val (.pointer (some ⟨w.heap.size, 0, none⟩)) (wantedq (j := 15) (d := 91) (want := false) (b := false) rfl (by rw [hops.out]; rfl) (by kernel_rfl) rfl) (fun wC hC => by kernel_rfl) ?_
      refine QP.val (.int .u8 (f1.toNat : Int)) (wantedq (j := 15) (d := 91) (want := false) (b := false) rfl (by rw [hops.out]; rfl) (by kernel_rfl) rfl) (fun wC hC => runq_load_int (p := ⟨w.heap.size, 0, none⟩) rfl (by kernel_rfl) (cell_of_row _ _ 0 _ _ _ (HRA wC hC)) Try.underlying5) ?_
      refine QP.val (.int .u8 ((f1 + 1 : UInt8).toNat : Int)) (wantedq (j := 15) (d := 91) (want := false) (b := false) rfl (by rw [hops.out]; rfl) (by kernel_rfl) rfl) (fun wC hC => runq_add (k := .u8) (p := (f1.toNat : Int)) (q := 1) rfl (by kernel_rfl) (by kernel_rfl) (add_one8 f1)) ?_
      refine QP.call 40 #[.int .u8 ((f1 + 1 : UInt8).toNat : Int), .int .u8 1] (.agg #[.int .u8 (((f1 + 1) % 128 : UInt8).toNat : Int), .int .u8 1, .slice none 0 0, .slice none 0 0, .int .u16 0, .int .u16 0]) (wantedq (j := 15) (d := 91) (want := false) (b := false) rfl (by rw [hops.out]; rfl) (by kernel_rfl) rfl) (fun wC hC => (congrArg (fun s => Sem.run Try.prog s wC) (by kernel_rfl)).trans (enters_wrong #[.int .u8 ((f1 + 1 : UInt8).toNat : Int), .int .u8 1] wC)) (fun wC hC => HWR wC hC) ?_
      refine QP.call 41 #[.agg #[.int .u8 (f1.toNat : Int), .int .u16 (a1.toNat : Int), .int .u16 (m1.toNat : Int), .int .u16 (t1.toNat : Int), .slice aw ws.length cw, .slice ab bs.length cb], .agg #[.int .u8 (((f1 + 1) % 128 : UInt8).toNat : Int), .int .u8 1, .slice none 0 0, .slice none 0 0, .int .u16 0, .int .u16 0]] (.bool false) (wantedq (j := 15) (d := 91) (want := false) (b := false) rfl (by rw [hops.out]; rfl) (by kernel_rfl) rfl) (fun wC hC => (congrArg (fun s => Sem.run Try.prog s wC) (by kernel_rfl)).trans (enters_fits #[.agg #[.int .u8 (f1.toNat : Int), .int .u16 (a1.toNat : Int), .int .u16 (m1.toNat : Int), .int .u16 (t1.toNat : Int), .slice aw ws.length cw, .slice ab bs.length cb], .agg #[.int .u8 (((f1 + 1) % 128 : UInt8).toNat : Int), .int .u8 1, .slice none 0 0, .slice none 0 0, .int .u16 0, .int .u16 0]] wC)) (fun wC hC => HF2 wC hC) ?_
      refine QP.val (.bool false) (by rfl) (fun wC hC => runq_pick (c := false) rfl (by kernel_rfl) (by kernel_rfl)) ?_
      refine QP.val (.bool false) (by rfl) (fun wC hC => runq_move rfl (by kernel_rfl)) ?_
      refine QP.val (.bool true) (wantedq (j := 23) (d := 99) (want := false) (b := false) rfl (by rw [hops.out]; rfl) (by kernel_rfl) rfl) (fun wC hC => runq_move rfl (by kernel_rfl)) ?_
      refine QP.val (.bool true) (wantedq (j := 23) (d := 99) (want := false) (b := false) rfl (by rw [hops.out]; rfl) (by kernel_rfl) rfl) (fun wC hC => runq_move rfl (by kernel_rfl)) ?_
      refine QP.val (.agg #[.int .u8 (f1.toNat : Int), .int .u16 (a1.toNat : Int), .int .u16 (m1.toNat : Int), .int .u16 (t1.toNat : Int), .slice aw ws.length cw, .slice ab bs.length cb]) (wantedq (j := 25) (d := 101) (want := true) (b := true) rfl (by rw [hops.out]; rfl) (by kernel_rfl) rfl) (fun wC hC => runq_load_row (t := 26) (g := w.heap.size) (fr := (0, 0)) rfl (by kernel_rfl) (HRA wC hC) Try.underlying26 rfl (by kernel_rfl)) ?_
      refine QP.val (.agg #[.int .u8 (f3.toNat : Int), .int .u8 (x3.toNat : Int), .slice pb es.length dpb, .slice pw us.length dpw, .int .u16 (a3.toNat : Int), .int .u16 (m3.toNat : Int)]) (wantedq (j := 25) (d := 101) (want := true) (b := true) rfl (by rw [hops.out]; rfl) (by kernel_rfl) rfl) (fun wC hC => runq_load_row (t := 48) (g := w1.heap.size) (fr := (0, 0)) rfl (by kernel_rfl) (HR7 wC hC) Try.underlying48 rfl (by kernel_rfl)) ?_
      refine QP.call 41 #[.agg #[.int .u8 (f1.toNat : Int), .int .u16 (a1.toNat : Int), .int .u16 (m1.toNat : Int), .int .u16 (t1.toNat : Int), .slice aw ws.length cw, .slice ab bs.length cb], .agg #[.int .u8 (f3.toNat : Int), .int .u8 (x3.toNat : Int), .slice pb es.length dpb, .slice pw us.length dpw, .int .u16 (a3.toNat : Int), .int .u16 (m3.toNat : Int)]] (.bool true) (wantedq (j := 25) (d := 101) (want := true) (b := true) rfl (by rw [hops.out]; rfl) (by kernel_rfl) rfl) (fun wC hC => (congrArg (fun s => Sem.run Try.prog s wC) (by kernel_rfl)).trans (enters_fits #[.agg #[.int .u8 (f1.toNat : Int), .int .u16 (a1.toNat : Int), .int .u16 (m1.toNat : Int), .int .u16 (t1.toNat : Int), .slice aw ws.length cw, .slice ab bs.length cb], .agg #[.int .u8 (f3.toNat : Int), .int .u8 (x3.toNat : Int), .slice pb es.length dpb, .slice pw us.length dpw, .int .u16 (a3.toNat : Int), .int .u16 (m3.toNat : Int)]] wC)) (fun wC hC => HF3 wC hC) ?_
      refine QP.val (.bool false) (wantedq (j := 25) (d := 101) (want := true) (b := true) rfl (by rw [hops.out]; rfl) (by kernel_rfl) rfl) (fun wC hC => runq_not (c := true) rfl (by kernel_rfl) rfl) ?_
      refine QP.val (.bool false) (wantedq (j := 23) (d := 99) (want := false) (b := false) rfl (by rw [hops.out]; rfl) (by kernel_rfl) rfl) (fun wC hC => runq_pick (c := true) rfl (by kernel_rfl) (by kernel_rfl)) ?_
      refine QP.val (.bool false) (by rfl) (fun wC hC => runq_pick (c := false) rfl (by kernel_rfl) (by kernel_rfl)) ?_
      refine QP.nil (hQ.out _ fun w8 hCw8 => ?_)
      simp only [Act.put, List.setIfInBounds_toArray, List.set_cons_succ, List.set_cons_zero]
      clear hops hQ HF1 HWR HF2 HF3
      go_wp2_with fail
      have HF4 : ∀ W, Below w3.heap.size w3 W → Calls Try.prog 41 #[.agg #[.int .u8 (f1.toNat : Int), .int .u16 (a1.toNat : Int), .int .u16 (m1.toNat : Int), .int .u16 (t1.toNat : Int), .slice aw ws.length cw, .slice ab bs.length cb], .agg #[.int .u8 (f2.toNat : Int), .int .u8 (x2.toNat : Int), .slice ob ds.length db, .slice ow vs.length dw, .int .u16 (a2.toNat : Int), .int .u16 (m2.toNat : Int)]] W fun e W' => e = .returned (.bool z5) ∧ Below w3.heap.size w3 W' := fun W h => (Fits_at _ _ ⟨f1, a1, m1, t1, ws, bs⟩ aw cw ab cb ⟨f2, x2, ds, vs, a2, m2⟩ ow dw ob db W rfl rfl (HAT W h) (HRT W h) hws hbs HZ5.out.2).mono fun _ _ ⟨he, hb⟩ => ⟨he, h.trans (hb.mono h.size)⟩
      have HS5 : ∀ W, Below w3.heap.size w3 W → Calls Try.prog 36 #[.agg #[.int .u8 (f3.toNat : Int), .int .u8 (x3.toNat : Int), .slice pb es.length dpb, .slice pw us.length dpw, .int .u16 (a3.toNat : Int), .int .u16 (m3.toNat : Int)], .agg #[.int .u8 (f2.toNat : Int), .int .u8 (x2.toNat : Int), .slice ob ds.length db, .slice ow vs.length dw, .int .u16 (a2.toNat : Int), .int .u16 (m2.toNat : Int)]] W fun e W' => e = .returned (.bool z5) ∧ Below w3.heap.size w3 W' := fun W h => (RSame_at _ _ ⟨f3, x3, es, us, a3, m3⟩ ⟨f2, x2, ds, vs, a2, m2⟩ pw dpw pb dpb ow dw ob db W rfl rfl (HP.out.below h) (HRT W h)).mono fun _ _ ⟨he, hb⟩ => ⟨by rw [he, HZ5.out.1], h.trans (hb.mono h.size)⟩
      refine region_quiet (fun W => Below w3.heap.size w3 W) (by kernel_rfl) (by kernel_rfl) (hCw8).drew ?_
      intro ops Q' hops hQ
      refine QP.val (.bool true) (by rfl) (fun wC hC => runq_move rfl (by kernel_rfl)) ?_
      refine QP.val (.bool true) (by rfl) (fun wC hC => runq_move rfl (by kernel_rfl)) ?_
      refine QP.val (.pointer (some ⟨w.heap.size + 1, 1, none⟩)) (wantedq (j := 1) (d := 109) (want := true) (b := true) rfl (by rw [hops.out]; rfl) (by kernel_rfl) rfl) (fun wC hC => by kernel_rfl) ?_
      refine QP.val (.int .u8 (x2.toNat : Int)) (wantedq (j := 1) (d := 109) (want := true) (b := true) rfl (by rw [hops.out]; rfl) (by kernel_rfl) rfl) (fun wC hC => runq_load_int (p := ⟨w.heap.size + 1, 1, none⟩) rfl (by kernel_rfl) (cell_of_row _ _ 1 _ _ _ (HRR wC hC)) Try.underlying5) ?_
      refine QP.val (.bool true) (wantedq (j := 1) (d := 109) (want := true) (b := true) rfl (by rw [hops.out]; rfl) (by kernel_rfl) rfl) (fun wC hC => runq_eql (k := .u8) (p := (x2.toNat : Int)) (q := 0) rfl (by kernel_rfl) (by kernel_rfl) (by simp; omega)) ?_
      refine QP.val (.bool true) (by rfl) (fun wC hC => runq_pick (c := true) rfl (by kernel_rfl) (by kernel_rfl)) ?_
      refine QP.val (.bool true) (by rfl) (fun wC hC => runq_move rfl (by kernel_rfl)) ?_
      refine QP.val (.agg #[.int .u8 (f1.toNat : Int), .int .u16 (a1.toNat : Int), .int .u16 (m1.toNat : Int), .int .u16 (t1.toNat : Int), .slice aw ws.length cw, .slice ab bs.length cb]) (wantedq (j := 6) (d := 114) (want := true) (b := true) rfl (by rw [hops.out]; rfl) (by kernel_rfl) rfl) (fun wC hC => runq_load_row (t := 26) (g := w.heap.size) (fr := (0, 0)) rfl (by kernel_rfl) (HRA wC hC) Try.underlying26 rfl (by kernel_rfl)) ?_
      refine QP.val (.agg #[.int .u8 (f2.toNat : Int), .int .u8 (x2.toNat : Int), .slice ob ds.length db, .slice ow vs.length dw, .int .u16 (a2.toNat : Int), .int .u16 (m2.toNat : Int)]) (wantedq (j := 6) (d := 114) (want := true) (b := true) rfl (by rw [hops.out]; rfl) (by kernel_rfl) rfl) (fun wC hC => runq_load_row (t := 48) (g := w.heap.size + 1) (fr := (0, 0)) rfl (by kernel_rfl) (HRR wC hC) Try.underlying48 rfl (by kernel_rfl)) ?_
      refine QP.call 41 #[.agg #[.int .u8 (f1.toNat : Int), .int .u16 (a1.toNat : Int), .int .u16 (m1.toNat : Int), .int .u16 (t1.toNat : Int), .slice aw ws.length cw, .slice ab bs.length cb], .agg #[.int .u8 (f2.toNat : Int), .int .u8 (x2.toNat : Int), .slice ob ds.length db, .slice ow vs.length dw, .int .u16 (a2.toNat : Int), .int .u16 (m2.toNat : Int)]] (.bool z5) (wantedq (j := 6) (d := 114) (want := true) (b := true) rfl (by rw [hops.out]; rfl) (by kernel_rfl) rfl) (fun wC hC => (congrArg (fun s => Sem.run Try.prog s wC) (by kernel_rfl)).trans (enters_fits #[.agg #[.int .u8 (f1.toNat : Int), .int .u16 (a1.toNat : Int), .int .u16 (m1.toNat : Int), .int .u16 (t1.toNat : Int), .slice aw ws.length cw, .slice ab bs.length cb], .agg #[.int .u8 (f2.toNat : Int), .int .u8 (x2.toNat : Int), .slice ob ds.length db, .slice ow vs.length dw, .int .u16 (a2.toNat : Int), .int .u16 (m2.toNat : Int)]] wC)) (fun wC hC => HF4 wC hC) ?_
      refine QP.val (.agg #[.int .u8 (f3.toNat : Int), .int .u8 (x3.toNat : Int), .slice pb es.length dpb, .slice pw us.length dpw, .int .u16 (a3.toNat : Int), .int .u16 (m3.toNat : Int)]) (wantedq (j := 6) (d := 114) (want := true) (b := true) rfl (by rw [hops.out]; rfl) (by kernel_rfl) rfl) (fun wC hC => runq_load_row (t := 48) (g := w1.heap.size) (fr := (0, 0)) rfl (by kernel_rfl) (HR7 wC hC) Try.underlying48 rfl (by kernel_rfl)) ?_
      refine QP.val (.agg #[.int .u8 (f2.toNat : Int), .int .u8 (x2.toNat : Int), .slice ob ds.length db, .slice ow vs.length dw, .int .u16 (a2.toNat : Int), .int .u16 (m2.toNat : Int)]) (wantedq (j := 6) (d := 114) (want := true) (b := true) rfl (by rw [hops.out]; rfl) (by kernel_rfl) rfl) (fun wC hC => runq_load_row (t := 48) (g := w.heap.size + 1) (fr := (0, 0)) rfl (by kernel_rfl) (HRR wC hC) Try.underlying48 rfl (by kernel_rfl)) ?_
      refine QP.call 36 #[.agg #[.int .u8 (f3.toNat : Int), .int .u8 (x3.toNat : Int), .slice pb es.length dpb, .slice pw us.length dpw, .int .u16 (a3.toNat : Int), .int .u16 (m3.toNat : Int)], .agg #[.int .u8 (f2.toNat : Int), .int .u8 (x2.toNat : Int), .slice ob ds.length db, .slice ow vs.length dw, .int .u16 (a2.toNat : Int), .int .u16 (m2.toNat : Int)]] (.bool z5) (wantedq (j := 6) (d := 114) (want := true) (b := true) rfl (by rw [hops.out]; rfl) (by kernel_rfl) rfl) (fun wC hC => (congrArg (fun s => Sem.run Try.prog s wC) (by kernel_rfl)).trans (enters_rsame #[.agg #[.int .u8 (f3.toNat : Int), .int .u8 (x3.toNat : Int), .slice pb es.length dpb, .slice pw us.length dpw, .int .u16 (a3.toNat : Int), .int .u16 (m3.toNat : Int)], .agg #[.int .u8 (f2.toNat : Int), .int .u8 (x2.toNat : Int), .slice ob ds.length db, .slice ow vs.length dw, .int .u16 (a2.toNat : Int), .int .u16 (m2.toNat : Int)]] wC)) (fun wC hC => HS5 wC hC) ?_
      refine QP.val (.bool false) (wantedq (j := 6) (d := 114) (want := true) (b := true) rfl (by rw [hops.out]; rfl) (by kernel_rfl) rfl) (fun wC hC => runq_neqb (p := z5) (q := z5) Try.underlying4 rfl (by kernel_rfl) (by kernel_rfl) (by simp)) ?_
      refine QP.val (.bool false) (by rfl) (fun wC hC => runq_pick (c := true) rfl (by kernel_rfl) (by kernel_rfl)) ?_
      refine QP.nil (hQ.out _ fun w9 hCw9 => ?_)
      simp only [Act.put, List.setIfInBounds_toArray, List.set_cons_succ, List.set_cons_zero]
      clear hops hQ HF4 HS5 hCw8
      have E7 := fun i => cell_of_row _ _ i _ _ _ (HR7 w9 hCw9)
      go_wp2_with fail
      refine (RRight_at _ ⟨f3, x3, es, us, a3, m3⟩ pw dpw pb dpb w9 rfl (HP.out.below hCw9) HER.out.1).mono ?_
      rintro e w10 ⟨rfl, hb10⟩
      clear E7
      have hB10 := hCw9.trans (hb10.mono hCw9.size)
      have E1 := fun i => cell_of_row _ _ i _ _ _ (HRA w10 hB10)
      have E7 := fun i => cell_of_row _ _ i _ _ _ (HR7 w10 hB10)
      have HB8 := Lib.hid (HBX.out.below.trans (hB10.mono HBX.out.below.size))
      clear HR7 HRX HRA HRR HAT HRT hCw9 hB10 hb10
      go_wp2_with fail
      refine (rawake_any _).mono ?_
      rintro e w11 ⟨rfl, hb11⟩
      have HB11 := Lib.hid (HB8.out.trans (hb11.mono HB8.out.size))
      clear E1 E7
      go_wp2_with fail
      go_ret
      exact Says.mk HB11.out
    · have C1 := fun i => cell_of_row _ _ i _ _ _ (HRA w3 hB3)
      go_wp2_with fail
      clear C1
      have HF1 : ∀ W, Below w3.heap.size w3 W → Calls Try.prog 41 #[.agg #[.int .u8 (f1.toNat : Int), .int .u16 (a1.toNat : Int), .int .u16 (m1.toNat : Int), .int .u16 (t1.toNat : Int), .slice aw ws.length cw, .slice ab bs.length cb], .agg #[.int .u8 ((f1 % 128 : UInt8).toNat : Int), .int .u8 (y.toNat : Int), .slice none 0 0, .slice none 0 0, .int .u16 0, .int .u16 0]] W fun e W' => e = .returned (.bool false) ∧ Below w3.heap.size w3 W' := fun W h => (Fits_at _ _ ⟨f1, a1, m1, t1, ws, bs⟩ aw cw ab cb (wrongN f1 y) none 0 none 0 W rfl rfl (HAT W h) ⟨Sl.none_, Sl.none_⟩ hws hbs HFW.out).mono fun _ _ ⟨he, hb⟩ => ⟨he, h.trans (hb.mono h.size)⟩
      have HWR : ∀ W, Below w3.heap.size w3 W → Calls Try.prog 40 #[.int .u8 ((f1 + 1 : UInt8).toNat : Int), .int .u8 1] W fun e W' => e = .returned (.agg #[.int .u8 (((f1 + 1) % 128 : UInt8).toNat : Int), .int .u8 1, .slice none 0 0, .slice none 0 0, .int .u16 0, .int .u16 0]) ∧ Below w3.heap.size w3 W' := fun W h => (Wrong_any (f1 + 1) 1 W).mono fun _ _ ⟨he, hb⟩ => ⟨he, h.trans (hb.mono h.size)⟩
      have HF2 : ∀ W, Below w3.heap.size w3 W → Calls Try.prog 41 #[.agg #[.int .u8 (f1.toNat : Int), .int .u16 (a1.toNat : Int), .int .u16 (m1.toNat : Int), .int .u16 (t1.toNat : Int), .slice aw ws.length cw, .slice ab bs.length cb], .agg #[.int .u8 (((f1 + 1) % 128 : UInt8).toNat : Int), .int .u8 1, .slice none 0 0, .slice none 0 0, .int .u16 0, .int .u16 0]] W fun e W' => e = .returned (.bool false) ∧ Below w3.heap.size w3 W' := fun W h => (Fits_at _ _ ⟨f1, a1, m1, t1, ws, bs⟩ aw cw ab cb (wrongN (f1 + 1) 1) none 0 none 0 W rfl rfl (HAT W h) ⟨Sl.none_, Sl.none_⟩ hws hbs HFO.out).mono fun _ _ ⟨he, hb⟩ => ⟨he, h.trans (hb.mono h.size)⟩
      have HF3 : ∀ W, Below w3.heap.size w3 W → Calls Try.prog 41 #[.agg #[.int .u8 (f1.toNat : Int), .int .u16 (a1.toNat : Int), .int .u16 (m1.toNat : Int), .int .u16 (t1.toNat : Int), .slice aw ws.length cw, .slice ab bs.length cb], .agg #[.int .u8 (f3.toNat : Int), .int .u8 (x3.toNat : Int), .slice pb es.length dpb, .slice pw us.length dpw, .int .u16 (a3.toNat : Int), .int .u16 (m3.toNat : Int)]] W fun e W' => e = .returned (.bool true) ∧ Below w3.heap.size w3 W' := fun W h => (Fits_at _ _ ⟨f1, a1, m1, t1, ws, bs⟩ aw cw ab cb ⟨f3, x3, es, us, a3, m3⟩ pw dpw pb dpb W rfl rfl (HAT W h) (HP.out.below h) hws hbs HFQ.out).mono fun _ _ ⟨he, hb⟩ => ⟨he, h.trans (hb.mono h.size)⟩
      refine region_quiet (fun W => Below w3.heap.size w3 W) (by kernel_rfl) (by kernel_rfl) (hB3).drew ?_
      intro ops Q' hops hQ
      refine QP.val (.bool true) (by rfl) (fun wC hC => runq_move rfl (by kernel_rfl)) ?_
      refine QP.val (.bool true) (by rfl) (fun wC hC => runq_move rfl (by kernel_rfl)) ?_
      refine QP.val (.bool false) (by rfl) (fun wC hC => runq_neqb (p := true) (q := true) Try.underlying4 rfl (by kernel_rfl) (by kernel_rfl) rfl) ?_
      refine QP.val (.bool false) (by rfl) (fun wC hC => runq_move rfl (by kernel_rfl)) ?_
      refine QP.val (.agg #[.int .u8 (f1.toNat : Int), .int .u16 (a1.toNat : Int), .int .u16 (m1.toNat : Int), .int .u16 (t1.toNat : Int), .slice aw ws.length cw, .slice ab bs.length cb]) (wantedq (j := 3) (d := 79) (want := false) (b := false) rfl (by rw [hops.out]; rfl) (by kernel_rfl) rfl) (fun wC hC => runq_load_row (t := 26) (g := w.heap.size) (fr := (0, 0)) rfl (by kernel_rfl) (HRA wC hC) Try.underlying26 rfl (by kernel_rfl)) ?_
      refine QP.val (.agg #[.int .u8 ((f1 % 128 : UInt8).toNat : Int), .int .u8 (y.toNat : Int), .slice none 0 0, .slice none 0 0, .int .u16 0, .int .u16 0]) (wantedq (j := 3) (d := 79) (want := false) (b := false) rfl (by rw [hops.out]; rfl) (by kernel_rfl) rfl) (fun wC hC => runq_load_row (t := 48) (g := w2.heap.size) (fr := (0, 0)) rfl (by kernel_rfl) (HRX wC hC) Try.underlying48 rfl (by kernel_rfl)) ?_
      refine QP.call 41 #[.agg #[.int .u8 (f1.toNat : Int), .int .u16 (a1.toNat : Int), .int .u16 (m1.toNat : Int), .int .u16 (t1.toNat : Int), .slice aw ws.length cw, .slice ab bs.length cb], .agg #[.int .u8 ((f1 % 128 : UInt8).toNat : Int), .int .u8 (y.toNat : Int), .slice none 0 0, .slice none 0 0, .int .u16 0, .int .u16 0]] (.bool false) (wantedq (j := 3) (d := 79) (want := false) (b := false) rfl (by rw [hops.out]; rfl) (by kernel_rfl) rfl) (fun wC hC => (congrArg (fun s => Sem.run Try.prog s wC) (by kernel_rfl)).trans (enters_fits #[.agg #[.int .u8 (f1.toNat : Int), .int .u16 (a1.toNat : Int), .int .u16 (m1.toNat : Int), .int .u16 (t1.toNat : Int), .slice aw ws.length cw, .slice ab bs.length cb], .agg #[.int .u8 ((f1 % 128 : UInt8).toNat : Int), .int .u8 (y.toNat : Int), .slice none 0 0, .slice none 0 0, .int .u16 0, .int .u16 0]] wC)) (fun wC hC => HF1 wC hC) ?_
      refine QP.val (.int .u8 (y.toNat : Int)) (wantedq (j := 3) (d := 79) (want := false) (b := false) rfl (by rw [hops.out]; rfl) (by kernel_rfl) rfl) (fun wC hC => runq_move rfl (by kernel_rfl)) ?_
      refine QP.val (.bool false) (wantedq (j := 3) (d := 79) (want := false) (b := false) rfl (by rw [hops.out]; rfl) (by kernel_rfl) rfl) (fun wC hC => runq_geq (k := .u8) (p := (y.toNat : Int)) (q := 1) rfl (by kernel_rfl) (by kernel_rfl) (by simp; omega)) ?_
      refine QP.val (.bool false) (wantedq (j := 3) (d := 79) (want := false) (b := false) rfl (by rw [hops.out]; rfl) (by kernel_rfl) rfl) (fun wC hC => runq_move rfl (by kernel_rfl)) ?_
      refine QP.skip (wantedq (j := 9) (d := 85) (want := true) (b := false) rfl (by rw [hops.out]; rfl) (by kernel_rfl) rfl) ?_
      refine QP.skip (wantedq (j := 9) (d := 85) (want := true) (b := false) rfl (by rw [hops.out]; rfl) (by kernel_rfl) rfl) ?_
      refine QP.val (.bool false) (wantedq (j := 3) (d := 79) (want := false) (b := false) rfl (by rw [hops.out]; rfl) (by kernel_rfl) rfl) (fun wC hC => runq_pick (c := false) rfl (by kernel_rfl) (by kernel_rfl)) ?_
      refine QP.val (.bool false) (wantedq (j := 3) (d := 79) (want := false) (b := false) rfl (by rw [hops.out]; rfl) (by kernel_rfl) rfl) (fun wC hC => runq_neqb (p := false) (q := false) Try.underlying4 rfl (by kernel_rfl) (by kernel_rfl) rfl) ?_
      refine QP.val (.bool false) (by rfl) (fun wC hC => runq_pick (c := false) rfl (by kernel_rfl) (by kernel_rfl)) ?_
      refine QP.val (.bool false) (by rfl) (fun wC hC => runq_move rfl (by kernel_rfl)) ?_
      refine QP.val (.agg #[.int .u8 (f1.toNat : Int), .int .u16 (a1.toNat : Int), .int .u16 (m1.toNat : Int), .int .u16 (t1.toNat : Int), .slice aw ws.length cw, .slice ab bs.length cb]) (wantedq (j := 15) (d := 91) (want := false) (b := false) rfl (by rw [hops.out]; rfl) (by kernel_rfl) rfl) (fun wC hC => runq_load_row (t := 26) (g := w.heap.size) (fr := (0, 0)) rfl (by kernel_rfl) (HRA wC hC) Try.underlying26 rfl (by kernel_rfl)) ?_
      refine QP.val (.pointer (some ⟨w.heap.size, 0, none⟩)) (wantedq (j := 15) (d := 91) (want := false) (b := false) rfl (by rw [hops.out]; rfl) (by kernel_rfl) rfl) (fun wC hC => by kernel_rfl) ?_
      refine QP.val (.int .u8 (f1.toNat : Int)) (wantedq (j := 15) (d := 91) (want := false) (b := false) rfl (by rw [hops.out]; rfl) (by kernel_rfl) rfl) (fun wC hC => runq_load_int (p := ⟨w.heap.size, 0, none⟩) rfl (by kernel_rfl) (cell_of_row _ _ 0 _ _ _ (HRA wC hC)) Try.underlying5) ?_
      refine QP.val (.int .u8 ((f1 + 1 : UInt8).toNat : Int)) (wantedq (j := 15) (d := 91) (want := false) (b := false) rfl (by rw [hops.out]; rfl) (by kernel_rfl) rfl) (fun wC hC => runq_add (k := .u8) (p := (f1.toNat : Int)) (q := 1) rfl (by kernel_rfl) (by kernel_rfl) (add_one8 f1)) ?_
      refine QP.call 40 #[.int .u8 ((f1 + 1 : UInt8).toNat : Int), .int .u8 1] (.agg #[.int .u8 (((f1 + 1) % 128 : UInt8).toNat : Int), .int .u8 1, .slice none 0 0, .slice none 0 0, .int .u16 0, .int .u16 0]) (wantedq (j := 15) (d := 91) (want := false) (b := false) rfl (by rw [hops.out]; rfl) (by kernel_rfl) rfl) (fun wC hC => (congrArg (fun s => Sem.run Try.prog s wC) (by kernel_rfl)).trans (enters_wrong #[.int .u8 ((f1 + 1 : UInt8).toNat : Int), .int .u8 1] wC)) (fun wC hC => HWR wC hC) ?_
      refine QP.call 41 #[.agg #[.int .u8 (f1.toNat : Int), .int .u16 (a1.toNat : Int), .int .u16 (m1.toNat : Int), .int .u16 (t1.toNat : Int), .slice aw ws.length cw, .slice ab bs.length cb], .agg #[.int .u8 (((f1 + 1) % 128 : UInt8).toNat : Int), .int .u8 1, .slice none 0 0, .slice none 0 0, .int .u16 0, .int .u16 0]] (.bool false) (wantedq (j := 15) (d := 91) (want := false) (b := false) rfl (by rw [hops.out]; rfl) (by kernel_rfl) rfl) (fun wC hC => (congrArg (fun s => Sem.run Try.prog s wC) (by kernel_rfl)).trans (enters_fits #[.agg #[.int .u8 (f1.toNat : Int), .int .u16 (a1.toNat : Int), .int .u16 (m1.toNat : Int), .int .u16 (t1.toNat : Int), .slice aw ws.length cw, .slice ab bs.length cb], .agg #[.int .u8 (((f1 + 1) % 128 : UInt8).toNat : Int), .int .u8 1, .slice none 0 0, .slice none 0 0, .int .u16 0, .int .u16 0]] wC)) (fun wC hC => HF2 wC hC) ?_
      refine QP.val (.bool false) (by rfl) (fun wC hC => runq_pick (c := false) rfl (by kernel_rfl) (by kernel_rfl)) ?_
      refine QP.val (.bool false) (by rfl) (fun wC hC => runq_move rfl (by kernel_rfl)) ?_
      refine QP.val (.bool true) (wantedq (j := 23) (d := 99) (want := false) (b := false) rfl (by rw [hops.out]; rfl) (by kernel_rfl) rfl) (fun wC hC => runq_move rfl (by kernel_rfl)) ?_
      refine QP.val (.bool true) (wantedq (j := 23) (d := 99) (want := false) (b := false) rfl (by rw [hops.out]; rfl) (by kernel_rfl) rfl) (fun wC hC => runq_move rfl (by kernel_rfl)) ?_
      refine QP.val (.agg #[.int .u8 (f1.toNat : Int), .int .u16 (a1.toNat : Int), .int .u16 (m1.toNat : Int), .int .u16 (t1.toNat : Int), .slice aw ws.length cw, .slice ab bs.length cb]) (wantedq (j := 25) (d := 101) (want := true) (b := true) rfl (by rw [hops.out]; rfl) (by kernel_rfl) rfl) (fun wC hC => runq_load_row (t := 26) (g := w.heap.size) (fr := (0, 0)) rfl (by kernel_rfl) (HRA wC hC) Try.underlying26 rfl (by kernel_rfl)) ?_
      refine QP.val (.agg #[.int .u8 (f3.toNat : Int), .int .u8 (x3.toNat : Int), .slice pb es.length dpb, .slice pw us.length dpw, .int .u16 (a3.toNat : Int), .int .u16 (m3.toNat : Int)]) (wantedq (j := 25) (d := 101) (want := true) (b := true) rfl (by rw [hops.out]; rfl) (by kernel_rfl) rfl) (fun wC hC => runq_load_row (t := 48) (g := w1.heap.size) (fr := (0, 0)) rfl (by kernel_rfl) (HR7 wC hC) Try.underlying48 rfl (by kernel_rfl)) ?_
      refine QP.call 41 #[.agg #[.int .u8 (f1.toNat : Int), .int .u16 (a1.toNat : Int), .int .u16 (m1.toNat : Int), .int .u16 (t1.toNat : Int), .slice aw ws.length cw, .slice ab bs.length cb], .agg #[.int .u8 (f3.toNat : Int), .int .u8 (x3.toNat : Int), .slice pb es.length dpb, .slice pw us.length dpw, .int .u16 (a3.toNat : Int), .int .u16 (m3.toNat : Int)]] (.bool true) (wantedq (j := 25) (d := 101) (want := true) (b := true) rfl (by rw [hops.out]; rfl) (by kernel_rfl) rfl) (fun wC hC => (congrArg (fun s => Sem.run Try.prog s wC) (by kernel_rfl)).trans (enters_fits #[.agg #[.int .u8 (f1.toNat : Int), .int .u16 (a1.toNat : Int), .int .u16 (m1.toNat : Int), .int .u16 (t1.toNat : Int), .slice aw ws.length cw, .slice ab bs.length cb], .agg #[.int .u8 (f3.toNat : Int), .int .u8 (x3.toNat : Int), .slice pb es.length dpb, .slice pw us.length dpw, .int .u16 (a3.toNat : Int), .int .u16 (m3.toNat : Int)]] wC)) (fun wC hC => HF3 wC hC) ?_
      refine QP.val (.bool false) (wantedq (j := 25) (d := 101) (want := true) (b := true) rfl (by rw [hops.out]; rfl) (by kernel_rfl) rfl) (fun wC hC => runq_not (c := true) rfl (by kernel_rfl) rfl) ?_
      refine QP.val (.bool false) (wantedq (j := 23) (d := 99) (want := false) (b := false) rfl (by rw [hops.out]; rfl) (by kernel_rfl) rfl) (fun wC hC => runq_pick (c := true) rfl (by kernel_rfl) (by kernel_rfl)) ?_
      refine QP.val (.bool false) (by rfl) (fun wC hC => runq_pick (c := false) rfl (by kernel_rfl) (by kernel_rfl)) ?_
      refine QP.nil (hQ.out _ fun w8 hCw8 => ?_)
      simp only [Act.put, List.setIfInBounds_toArray, List.set_cons_succ, List.set_cons_zero]
      clear hops hQ HF1 HWR HF2 HF3
      go_wp2_with fail
      refine region_quiet (fun W => Below w3.heap.size w3 W) (by kernel_rfl) (by kernel_rfl) (hCw8).drew ?_
      intro ops Q' hops hQ
      refine QP.val (.bool true) (by rfl) (fun wC hC => runq_move rfl (by kernel_rfl)) ?_
      refine QP.val (.bool true) (by rfl) (fun wC hC => runq_move rfl (by kernel_rfl)) ?_
      refine QP.val (.pointer (some ⟨w.heap.size + 1, 1, none⟩)) (wantedq (j := 1) (d := 109) (want := true) (b := true) rfl (by rw [hops.out]; rfl) (by kernel_rfl) rfl) (fun wC hC => by kernel_rfl) ?_
      refine QP.val (.int .u8 (x2.toNat : Int)) (wantedq (j := 1) (d := 109) (want := true) (b := true) rfl (by rw [hops.out]; rfl) (by kernel_rfl) rfl) (fun wC hC => runq_load_int (p := ⟨w.heap.size + 1, 1, none⟩) rfl (by kernel_rfl) (cell_of_row _ _ 1 _ _ _ (HRR wC hC)) Try.underlying5) ?_
      refine QP.val (.bool false) (wantedq (j := 1) (d := 109) (want := true) (b := true) rfl (by rw [hops.out]; rfl) (by kernel_rfl) rfl) (fun wC hC => runq_eql (k := .u8) (p := (x2.toNat : Int)) (q := 0) rfl (by kernel_rfl) (by kernel_rfl) (by simp; omega)) ?_
      refine QP.val (.bool false) (by rfl) (fun wC hC => runq_pick (c := true) rfl (by kernel_rfl) (by kernel_rfl)) ?_
      refine QP.val (.bool false) (by rfl) (fun wC hC => runq_move rfl (by kernel_rfl)) ?_
      refine QP.skip (wantedq (j := 6) (d := 114) (want := true) (b := false) rfl (by rw [hops.out]; rfl) (by kernel_rfl) rfl) ?_
      refine QP.skip (wantedq (j := 6) (d := 114) (want := true) (b := false) rfl (by rw [hops.out]; rfl) (by kernel_rfl) rfl) ?_
      refine QP.skip (wantedq (j := 6) (d := 114) (want := true) (b := false) rfl (by rw [hops.out]; rfl) (by kernel_rfl) rfl) ?_
      refine QP.skip (wantedq (j := 6) (d := 114) (want := true) (b := false) rfl (by rw [hops.out]; rfl) (by kernel_rfl) rfl) ?_
      refine QP.skip (wantedq (j := 6) (d := 114) (want := true) (b := false) rfl (by rw [hops.out]; rfl) (by kernel_rfl) rfl) ?_
      refine QP.skip (wantedq (j := 6) (d := 114) (want := true) (b := false) rfl (by rw [hops.out]; rfl) (by kernel_rfl) rfl) ?_
      refine QP.skip (wantedq (j := 6) (d := 114) (want := true) (b := false) rfl (by rw [hops.out]; rfl) (by kernel_rfl) rfl) ?_
      refine QP.val (.bool false) (by rfl) (fun wC hC => runq_pick (c := false) rfl (by kernel_rfl) (by kernel_rfl)) ?_
      refine QP.nil (hQ.out _ fun w9 hCw9 => ?_)
      simp only [Act.put, List.setIfInBounds_toArray, List.set_cons_succ, List.set_cons_zero]
      clear hops hQ hCw8
      have E7 := fun i => cell_of_row _ _ i _ _ _ (HR7 w9 hCw9)
      go_wp2_with fail
      refine (RRight_at _ ⟨f3, x3, es, us, a3, m3⟩ pw dpw pb dpb w9 rfl (HP.out.below hCw9) HER.out.1).mono ?_
      rintro e w10 ⟨rfl, hb10⟩
      clear E7
      have hB10 := hCw9.trans (hb10.mono hCw9.size)
      have E1 := fun i => cell_of_row _ _ i _ _ _ (HRA w10 hB10)
      have E7 := fun i => cell_of_row _ _ i _ _ _ (HR7 w10 hB10)
      have HB8 := Lib.hid (HBX.out.below.trans (hB10.mono HBX.out.below.size))
      clear HR7 HRX HRA HRR HAT HRT hCw9 hB10 hb10
      go_wp2_with fail
      refine (rawake_any _).mono ?_
      rintro e w11 ⟨rfl, hb11⟩
      have HB11 := Lib.hid (HB8.out.trans (hb11.mono HB8.out.size))
      clear E1 E7
      go_wp2_with fail
      go_ret
      exact Says.mk HB11.out
set_option maxRecDepth 100000 in
set_option maxHeartbeats 40000000 in
theorem ReplyEcho_6 (a : Req) (aw : Option Addr) (cw : Nat) (ab : Option Addr) (cb : Nat) (r : Rep) (ow : Option Addr) (dw : Nat) (ob : Option Addr) (db : Nat) (x : UInt8) (w : World) (hA : AskAt w w.heap.size a aw cw ab cb) (hR : RepAt w w.heap.size r ow dw ob db) (h1 : a.words.length ≤ 200 ∧ a.bits.length ≤ 2100) (h2 : r.words.length ≤ 200 ∧ r.bits.length ≤ 2100) (hrf : rightN a = true) (q : Rep) (hec : echoN a = some q) (hw : a.fn.toNat = 6) :
    Calls Try.prog 6 #[askV a aw cw ab cb, repV r ow dw ob db, b8 x] w (Says (.bool true) w) := by
  have l1 := len_le hA.words
  have l2 := len_le hA.bits
  have l3 := len_le hR.words
  have l4 := len_le hR.bits
  have HA := Lib.hid hA
  have HR := Lib.hid hR
  clear hA hR
  obtain ⟨f1, a1, m1, t1, ws, bs⟩ := a
  obtain ⟨f2, x2, ds, vs, a2, m2⟩ := r
  have hf8 := f1.toNat_lt
  have hx8 := x.toNat_lt
  simp only at l1 l2 l3 l4 h1 h2
  have hx1 := Lib.hid (few_true h1.1 h1.2)
  have hx2 := Lib.hid (few_true h2.1 h2.2)
  have hws : ws.length ≤ 1000000 := by omega
  have hbs : bs.length ≤ 1000000 := by omega
  have HBX0 : Hid (Boxed w #[.int .u8 (f1.toNat : Int), .int .u16 (a1.toNat : Int), .int .u16 (m1.toNat : Int), .int .u16 (t1.toNat : Int), .slice aw ws.length cw, .slice ab bs.length cb] #[.int .u8 (f2.toNat : Int), .int .u8 (x2.toNat : Int), .slice ob ds.length db, .slice ow vs.length dw, .int .u16 (a2.toNat : Int), .int .u16 (m2.toNat : Int)] 26 48 ((w.alloc (.cells #[.int .u8 (f1.toNat : Int), .int .u16 (a1.toNat : Int), .int .u16 (m1.toNat : Int), .int .u16 (t1.toNat : Int), .slice aw ws.length cw, .slice ab bs.length cb] 26)).alloc (.cells #[.int .u8 (f2.toNat : Int), .int .u8 (x2.toNat : Int), .slice ob ds.length db, .slice ow vs.length dw, .int .u16 (a2.toNat : Int), .int .u16 (m2.toNat : Int)] 48))) := Lib.hid (Below.refl _ _)
  have hEC := fun (W : World) (h : Below w.heap.size w W) => Echo_any ⟨f1, a1, m1, t1, ws, bs⟩ aw cw ab cb W (HA.out.below h) hws hbs
  clear h1 h2
  have HRF := Lib.hid hrf
  have hFO := fits_other hrf
  have hFW := fun y => fits_wrong hrf y
  simp only at hFO hFW
  have HFO := Lib.hid hFO
  have HFWA := Lib.hid hFW
  have hEW := echo_writes hrf
  have hER := fun q => echo_right hrf (q := q)
  have hEF := fun q (hq : echoN ⟨f1, a1, m1, t1, ws, bs⟩ = some q) r (hx : r.ex.toNat = 0) => fits_echo hrf hq (r := r) hx
  clear hrf hFO hFW
  obtain ⟨f3, x3, es, us, a3, m3⟩ := q
  have hr := hER _ hec
  have hFQ := hEF _ hec ⟨f3, x3, es, us, a3, m3⟩ (by rw [hr.2.2.2]; rfl)
  rw [decide_eq_true rfl] at hFQ
  have hZ := fun h => hEF _ hec ⟨f2, x2, ds, vs, a2, m2⟩ h
  obtain ⟨z5, hz5⟩ : ∃ z, decide ((⟨f3, x3, es, us, a3, m3⟩ : Rep) = ⟨f2, x2, ds, vs, a2, m2⟩) = z := ⟨_, rfl⟩
  have HZ5A : Hid (x2.toNat = 0 → decide ((⟨f3, x3, es, us, a3, m3⟩ : Rep) = ⟨f2, x2, ds, vs, a2, m2⟩) = z5 ∧ fitsN ⟨f1, a1, m1, t1, ws, bs⟩ ⟨f2, x2, ds, vs, a2, m2⟩ = z5) := Lib.hid (fun h => ⟨hz5, (hZ h).trans hz5⟩)
  have HER := Lib.hid hr
  have HFQ := Lib.hid hFQ
  have HEC := Lib.hid hec
  have j1 : ((f3.toNat : Int) == (f1.toNat : Int)) = true := by have : f3 = f1 := hr.2.1; rw [this]; simp
  have j2 : ((a3.toNat : Int) == (a1.toNat : Int)) = true := by have : a3 = a1 := hr.2.2.1; rw [this]; simp
  clear hEW hER hEF hec hr hFQ hZ hz5
  simp only at hw

  have k5 : ((f1.toNat : Int) == 5) = false := by simp; omega
  have k6 : ((f1.toNat : Int) == 6) = true := by simp; omega
  clear hw
  go_enter Try.func6, Try.ntmps6
  go_wp2_with fail
  refine (Few_any _ _ _ _ _ _ _ l1 l2).mono ?_
  rintro e w1 ⟨rfl, rfl⟩
  rw [hx1.out]
  go_wp2_with fail
  refine (Few_any _ _ _ _ _ _ _ l3 l4).mono ?_
  rintro e w1 ⟨rfl, rfl⟩
  rw [hx2.out]
  have C1 := HBX0.out.one
  have C2 := HBX0.out.two
  generalize (w.alloc (.cells #[.int .u8 (f1.toNat : Int), .int .u16 (a1.toNat : Int), .int .u16 (m1.toNat : Int), .int .u16 (t1.toNat : Int), .slice aw ws.length cw, .slice ab bs.length cb] 26)).alloc (.cells #[.int .u8 (f2.toNat : Int), .int .u8 (x2.toNat : Int), .slice ob ds.length db, .slice ow vs.length dw, .int .u16 (a2.toNat : Int), .int .u16 (m2.toNat : Int)] 48) = W0 at *
  go_wp2_with fail
  have hEC1 := hEC W0 HBX0.out.below
  rw [HEC.out] at hEC1
  have HEC1 := Lib.hid hEC1
  clear hEC1 hEC
  refine HEC1.out.mono ?_
  rintro e w1 ⟨pw, dpw, pb, dpb, rfl, hP, hb1, -⟩
  have HBX1 : Hid (Boxed w #[.int .u8 (f1.toNat : Int), .int .u16 (a1.toNat : Int), .int .u16 (m1.toNat : Int), .int .u16 (t1.toNat : Int), .slice aw ws.length cw, .slice ab bs.length cb] #[.int .u8 (f2.toNat : Int), .int .u8 (x2.toNat : Int), .slice ob ds.length db, .slice ow vs.length dw, .int .u16 (a2.toNat : Int), .int .u16 (m2.toNat : Int)] 26 48 w1) := Lib.hid (HBX0.out.on (hb1.mono HBX0.out.size))
  have HP1 := Lib.hid hP
  clear hb1 hP HEC1 C1 C2 HBX0
  simp only [Option.getD_some, Option.isSome_some]
  have D1 := fun (X : Obj) (o : Nat) => (World.cell?_alloc_lt w1 X ⟨w.heap.size, o, none⟩ (by have := HBX1.out.size; show w.heap.size < _; omega)).trans (HBX1.out.one o)
  go_wp2_with fail
  rw [mod6 x]
  generalize x % 6 = y at *
  clear D1
  have HR7 := Lib.hid (heap_alloc_new w1 (.cells #[.int .u8 (f3.toNat : Int), .int .u8 (x3.toNat : Int), .slice pb es.length dpb, .slice pw us.length dpw, .int .u16 (a3.toNat : Int), .int .u16 (m3.toNat : Int)] 48))
  have HBA := Lib.hid ((Below.refl w1.heap.size w1).alloc (Nat.le_refl _) (.cells #[.int .u8 (f3.toNat : Int), .int .u8 (x3.toNat : Int), .slice pb es.length dpb, .slice pw us.length dpw, .int .u16 (a3.toNat : Int), .int .u16 (m3.toNat : Int)] 48))
  have HZ1 : Hid ((w1.alloc (.cells #[.int .u8 (f3.toNat : Int), .int .u8 (x3.toNat : Int), .slice pb es.length dpb, .slice pw us.length dpw, .int .u16 (a3.toNat : Int), .int .u16 (m3.toNat : Int)] 48)).heap.size = w1.heap.size + 1) := Lib.hid (by simp)
  generalize w1.alloc (.cells #[.int .u8 (f3.toNat : Int), .int .u8 (x3.toNat : Int), .slice pb es.length dpb, .slice pw us.length dpw, .int .u16 (a3.toNat : Int), .int .u16 (m3.toNat : Int)] 48) = W1 at *
  refine (Wrong_at f1 y W1).mono ?_
  rintro e w2 ⟨rfl, hb2⟩
  have HBX2 : Hid (Boxed w #[.int .u8 (f1.toNat : Int), .int .u16 (a1.toNat : Int), .int .u16 (m1.toNat : Int), .int .u16 (t1.toNat : Int), .slice aw ws.length cw, .slice ab bs.length cb] #[.int .u8 (f2.toNat : Int), .int .u8 (x2.toNat : Int), .slice ob ds.length db, .slice ow vs.length dw, .int .u16 (a2.toNat : Int), .int .u16 (m2.toNat : Int)] 26 48 w2) := Lib.hid ((HBX1.out.on (HBA.out.mono HBX1.out.size)).on (hb2.mono (by have := HBX1.out.size; have := HZ1.out; omega)))
  have HR72 := Lib.hid ((hb2.block w1.heap.size (by have := HZ1.out; omega)).trans HR7.out)
  have HP2 := Lib.hid ((HP1.out.up HBA.out (Nat.le_refl _)).up hb2 (Nat.le_refl _))
  have HL7 : Hid (w1.heap.size < w2.heap.size) := Lib.hid (by have := hb2.size; have := HZ1.out; omega)
  have HG7 : Hid (w.heap.size + 2 ≤ w1.heap.size) := Lib.hid HBX1.out.size
  clear hb2 HR7 HBA HZ1 HP1 HBX1
  have D1 := fun (X : Obj) (o : Nat) => (World.cell?_alloc_lt w2 X ⟨w.heap.size, o, none⟩ (by have := HBX2.out.size; show w.heap.size < _; omega)).trans (HBX2.out.one o)
  go_wp2_with fail
  clear D1
  have HR10 := Lib.hid (heap_alloc_new w2 (.cells #[.int .u8 ((f1 % 128 : UInt8).toNat : Int), .int .u8 (y.toNat : Int), .slice none 0 0, .slice none 0 0, .int .u16 0, .int .u16 0] 48))
  have HBA := Lib.hid ((Below.refl w2.heap.size w2).alloc (Nat.le_refl _) (.cells #[.int .u8 ((f1 % 128 : UInt8).toNat : Int), .int .u8 (y.toNat : Int), .slice none 0 0, .slice none 0 0, .int .u16 0, .int .u16 0] 48))
  have HZ2 : Hid ((w2.alloc (.cells #[.int .u8 ((f1 % 128 : UInt8).toNat : Int), .int .u8 (y.toNat : Int), .slice none 0 0, .slice none 0 0, .int .u16 0, .int .u16 0] 48)).heap.size = w2.heap.size + 1) := Lib.hid (by simp)
  change Calls _ _ _ (w2.alloc (.cells #[.int .u8 ((f1 % 128 : UInt8).toNat : Int), .int .u8 (y.toNat : Int), .slice none 0 0, .slice none 0 0, .int .u16 0, .int .u16 0] 48)) _
  generalize w2.alloc (.cells #[.int .u8 ((f1 % 128 : UInt8).toNat : Int), .int .u8 (y.toNat : Int), .slice none 0 0, .slice none 0 0, .int .u16 0, .int .u16 0] 48) = W2 at *
  refine (Right_any ⟨f1, a1, m1, t1, ws, bs⟩ aw cw ab cb W2 hws hbs).mono ?_
  rw [HRF.out]
  rintro e w3 ⟨rfl, hb3⟩
  have HBX : Hid (Boxed w #[.int .u8 (f1.toNat : Int), .int .u16 (a1.toNat : Int), .int .u16 (m1.toNat : Int), .int .u16 (t1.toNat : Int), .slice aw ws.length cw, .slice ab bs.length cb] #[.int .u8 (f2.toNat : Int), .int .u8 (x2.toNat : Int), .slice ob ds.length db, .slice ow vs.length dw, .int .u16 (a2.toNat : Int), .int .u16 (m2.toNat : Int)] 26 48 w3) := Lib.hid ((HBX2.out.on (HBA.out.mono HBX2.out.size)).on (hb3.mono (by have := HBX2.out.size; have := HZ2.out; omega)))
  have HG10 : Hid (w2.heap.size < w3.heap.size) := Lib.hid (by have := hb3.size; have := HZ2.out; omega)
  have HR7 : ∀ W, Below w3.heap.size w3 W → W.heap[w1.heap.size]? = some (.cells #[.int .u8 (f3.toNat : Int), .int .u8 (x3.toNat : Int), .slice pb es.length dpb, .slice pw us.length dpw, .int .u16 (a3.toNat : Int), .int .u16 (m3.toNat : Int)] 48 (0, 0)) := fun W h => (h.block w1.heap.size (by have := HL7.out; have := HG10.out; omega)).trans ((hb3.block w1.heap.size (by have := HL7.out; have := HZ2.out; omega)).trans ((HBA.out.block w1.heap.size HL7.out).trans HR72.out))
  have HRX : ∀ W, Below w3.heap.size w3 W → W.heap[w2.heap.size]? = some (.cells #[.int .u8 ((f1 % 128 : UInt8).toNat : Int), .int .u8 (y.toNat : Int), .slice none 0 0, .slice none 0 0, .int .u16 0, .int .u16 0] 48 (0, 0)) := fun W h => (h.block w2.heap.size HG10.out).trans ((hb3.block w2.heap.size (by have := HZ2.out; omega)).trans HR10.out)
  have HP := Lib.hid ((HP2.out.up HBA.out (Nat.le_refl _)).up hb3 (Nat.le_refl _))
  have HRA : ∀ W, Below w3.heap.size w3 W → W.heap[w.heap.size]? = some (.cells #[.int .u8 (f1.toNat : Int), .int .u16 (a1.toNat : Int), .int .u16 (m1.toNat : Int), .int .u16 (t1.toNat : Int), .slice aw ws.length cw, .slice ab bs.length cb] 26 (0, 0)) := fun W h => (h.block w.heap.size (by have := HBX.out.size; omega)).trans (Boxed.h1 HBX.out)
  have HRR : ∀ W, Below w3.heap.size w3 W → W.heap[w.heap.size + 1]? = some (.cells #[.int .u8 (f2.toNat : Int), .int .u8 (x2.toNat : Int), .slice ob ds.length db, .slice ow vs.length dw, .int .u16 (a2.toNat : Int), .int .u16 (m2.toNat : Int)] 48 (0, 0)) := fun W h => (h.block (w.heap.size + 1) (by have := HBX.out.size; omega)).trans (Boxed.h2 HBX.out)
  have HAT : ∀ W, Below w3.heap.size w3 W → AskAt W W.heap.size ⟨f1, a1, m1, t1, ws, bs⟩ aw cw ab cb := fun W h => (HA.out.below HBX.out.below).below h
  have HRT : ∀ W, Below w3.heap.size w3 W → RepAt W W.heap.size ⟨f2, x2, ds, vs, a2, m2⟩ ow dw ob db := fun W h => (HR.out.below HBX.out.below).below h
  have hB3 := Below.refl w3.heap.size w3
  clear hb3 HR10 HBA HZ2 HP2 HR72 HBX2
  by_cases hy : 1 ≤ y.toNat
  · obtain ⟨q2, hq2⟩ : ∃ q2, decide (y.toNat ≤ 4) = q2 := ⟨_, rfl⟩
    have HQ2 : Hid (decide ((y.toNat : Int) ≤ 4) = q2) := Lib.hid (by rw [← hq2, Bool.eq_iff_iff, decide_eq_true_eq, decide_eq_true_eq]; omega)
    have HFW : Hid (fitsN ⟨f1, a1, m1, t1, ws, bs⟩ (wrongN f1 y) = q2) := Lib.hid (by rw [HFWA.out y, hq2, decide_eq_true hy, Bool.true_and])
    clear hq2
    by_cases hx20 : x2.toNat = 0
    · have HZ5 := Lib.hid (HZ5A.out hx20)
      have C1 := fun i => cell_of_row _ _ i _ _ _ (HRA w3 hB3)
      go_wp2_with fail
      clear C1
      have HF1 : ∀ W, Below w3.heap.size w3 W → Calls Try.prog 41 #[.agg #[.int .u8 (f1.toNat : Int), .int .u16 (a1.toNat : Int), .int .u16 (m1.toNat : Int), .int .u16 (t1.toNat : Int), .slice aw ws.length cw, .slice ab bs.length cb], .agg #[.int .u8 ((f1 % 128 : UInt8).toNat : Int), .int .u8 (y.toNat : Int), .slice none 0 0, .slice none 0 0, .int .u16 0, .int .u16 0]] W fun e W' => e = .returned (.bool q2) ∧ Below w3.heap.size w3 W' := fun W h => (Fits_at _ _ ⟨f1, a1, m1, t1, ws, bs⟩ aw cw ab cb (wrongN f1 y) none 0 none 0 W rfl rfl (HAT W h) ⟨Sl.none_, Sl.none_⟩ hws hbs HFW.out).mono fun _ _ ⟨he, hb⟩ => ⟨he, h.trans (hb.mono h.size)⟩
      have HWR : ∀ W, Below w3.heap.size w3 W → Calls Try.prog 40 #[.int .u8 ((f1 + 1 : UInt8).toNat : Int), .int .u8 1] W fun e W' => e = .returned (.agg #[.int .u8 (((f1 + 1) % 128 : UInt8).toNat : Int), .int .u8 1, .slice none 0 0, .slice none 0 0, .int .u16 0, .int .u16 0]) ∧ Below w3.heap.size w3 W' := fun W h => (Wrong_any (f1 + 1) 1 W).mono fun _ _ ⟨he, hb⟩ => ⟨he, h.trans (hb.mono h.size)⟩
      have HF2 : ∀ W, Below w3.heap.size w3 W → Calls Try.prog 41 #[.agg #[.int .u8 (f1.toNat : Int), .int .u16 (a1.toNat : Int), .int .u16 (m1.toNat : Int), .int .u16 (t1.toNat : Int), .slice aw ws.length cw, .slice ab bs.length cb], .agg #[.int .u8 (((f1 + 1) % 128 : UInt8).toNat : Int), .int .u8 1, .slice none 0 0, .slice none 0 0, .int .u16 0, .int .u16 0]] W fun e W' => e = .returned (.bool false) ∧ Below w3.heap.size w3 W' := fun W h => (Fits_at _ _ ⟨f1, a1, m1, t1, ws, bs⟩ aw cw ab cb (wrongN (f1 + 1) 1) none 0 none 0 W rfl rfl (HAT W h) ⟨Sl.none_, Sl.none_⟩ hws hbs HFO.out).mono fun _ _ ⟨he, hb⟩ => ⟨he, h.trans (hb.mono h.size)⟩
      have HF3 : ∀ W, Below w3.heap.size w3 W → Calls Try.prog 41 #[.agg #[.int .u8 (f1.toNat : Int), .int .u16 (a1.toNat : Int), .int .u16 (m1.toNat : Int), .int .u16 (t1.toNat : Int), .slice aw ws.length cw, .slice ab bs.length cb], .agg #[.int .u8 (f3.toNat : Int), .int .u8 (x3.toNat : Int), .slice pb es.length dpb, .slice pw us.length dpw, .int .u16 (a3.toNat : Int), .int .u16 (m3.toNat : Int)]] W fun e W' => e = .returned (.bool true) ∧ Below w3.heap.size w3 W' := fun W h => (Fits_at _ _ ⟨f1, a1, m1, t1, ws, bs⟩ aw cw ab cb ⟨f3, x3, es, us, a3, m3⟩ pw dpw pb dpb W rfl rfl (HAT W h) (HP.out.below h) hws hbs HFQ.out).mono fun _ _ ⟨he, hb⟩ => ⟨he, h.trans (hb.mono h.size)⟩
      refine region_quiet (fun W => Below w3.heap.size w3 W) (by kernel_rfl) (by kernel_rfl) (hB3).drew ?_
      intro ops Q' hops hQ
      refine QP.val (.bool true) (by rfl) (fun wC hC => runq_move rfl (by kernel_rfl)) ?_
      refine QP.val (.bool true) (by rfl) (fun wC hC => runq_move rfl (by kernel_rfl)) ?_
      refine QP.val (.bool false) (by rfl) (fun wC hC => runq_neqb (p := true) (q := true) Try.underlying4 rfl (by kernel_rfl) (by kernel_rfl) rfl) ?_
      refine QP.val (.bool false) (by rfl) (fun wC hC => runq_move rfl (by kernel_rfl)) ?_
      refine QP.val (.agg #[.int .u8 (f1.toNat : Int), .int .u16 (a1.toNat : Int), .int .u16 (m1.toNat : Int), .int .u16 (t1.toNat : Int), .slice aw ws.length cw, .slice ab bs.length cb]) (wantedq (j := 3) (d := 79) (want := false) (b := false) rfl (by rw [hops.out]; rfl) (by kernel_rfl) rfl) (fun wC hC => runq_load_row (t := 26) (g := w.heap.size) (fr := (0, 0)) rfl (by kernel_rfl) (HRA wC hC) Try.underlying26 rfl (by kernel_rfl)) ?_
      refine QP.val (.agg #[.int .u8 ((f1 % 128 : UInt8).toNat : Int), .int .u8 (y.toNat : Int), .slice none 0 0, .slice none 0 0, .int .u16 0, .int .u16 0]) (wantedq (j := 3) (d := 79) (want := false) (b := false) rfl (by rw [hops.out]; rfl) (by kernel_rfl) rfl) (fun wC hC => runq_load_row (t := 48) (g := w2.heap.size) (fr := (0, 0)) rfl (by kernel_rfl) (HRX wC hC) Try.underlying48 rfl (by kernel_rfl)) ?_
      refine QP.call 41 #[.agg #[.int .u8 (f1.toNat : Int), .int .u16 (a1.toNat : Int), .int .u16 (m1.toNat : Int), .int .u16 (t1.toNat : Int), .slice aw ws.length cw, .slice ab bs.length cb], .agg #[.int .u8 ((f1 % 128 : UInt8).toNat : Int), .int .u8 (y.toNat : Int), .slice none 0 0, .slice none 0 0, .int .u16 0, .int .u16 0]] (.bool q2) (wantedq (j := 3) (d := 79) (want := false) (b := false) rfl (by rw [hops.out]; rfl) (by kernel_rfl) rfl) (fun wC hC => (congrArg (fun s => Sem.run Try.prog s wC) (by kernel_rfl)).trans (enters_fits #[.agg #[.int .u8 (f1.toNat : Int), .int .u16 (a1.toNat : Int), .int .u16 (m1.toNat : Int), .int .u16 (t1.toNat : Int), .slice aw ws.length cw, .slice ab bs.length cb], .agg #[.int .u8 ((f1 % 128 : UInt8).toNat : Int), .int .u8 (y.toNat : Int), .slice none 0 0, .slice none 0 0, .int .u16 0, .int .u16 0]] wC)) (fun wC hC => HF1 wC hC) ?_
      refine QP.val (.int .u8 (y.toNat : Int)) (wantedq (j := 3) (d := 79) (want := false) (b := false) rfl (by rw [hops.out]; rfl) (by kernel_rfl) rfl) (fun wC hC => runq_move rfl (by kernel_rfl)) ?_
      refine QP.val (.bool true) (wantedq (j := 3) (d := 79) (want := false) (b := false) rfl (by rw [hops.out]; rfl) (by kernel_rfl) rfl) (fun wC hC => runq_geq (k := .u8) (p := (y.toNat : Int)) (q := 1) rfl (by kernel_rfl) (by kernel_rfl) (by simp; omega)) ?_
      refine QP.val (.bool true) (wantedq (j := 3) (d := 79) (want := false) (b := false) rfl (by rw [hops.out]; rfl) (by kernel_rfl) rfl) (fun wC hC => runq_move rfl (by kernel_rfl)) ?_
      refine QP.val (.int .u8 (y.toNat : Int)) (wantedq (j := 9) (d := 85) (want := true) (b := true) rfl (by rw [hops.out]; rfl) (by kernel_rfl) rfl) (fun wC hC => runq_move rfl (by kernel_rfl)) ?_
      refine QP.val (.bool q2) (wantedq (j := 9) (d := 85) (want := true) (b := true) rfl (by rw [hops.out]; rfl) (by kernel_rfl) rfl) (fun wC hC => runq_leq (k := .u8) (p := (y.toNat : Int)) (q := 4) rfl (by kernel_rfl) (by kernel_rfl) HQ2.out) ?_
      refine QP.val (.bool q2) (wantedq (j := 3) (d := 79) (want := false) (b := false) rfl (by rw [hops.out]; rfl) (by kernel_rfl) rfl) (fun wC hC => runq_pick (c := true) rfl (by kernel_rfl) (by kernel_rfl)) ?_
      refine QP.val (.bool false) (wantedq (j := 3) (d := 79) (want := false) (b := false) rfl (by rw [hops.out]; rfl) (by kernel_rfl) rfl) (fun wC hC => runq_neqb (p := q2) (q := q2) Try.underlying4 rfl (by kernel_rfl) (by kernel_rfl) (by simp)) ?_
      refine QP.val (.bool false) (by rfl) (fun wC hC => runq_pick (c := false) rfl (by kernel_rfl) (by kernel_rfl)) ?_
      refine QP.val (.bool false) (by rfl) (fun wC hC => runq_move rfl (by kernel_rfl)) ?_
      refine QP.val (.agg #[.int .u8 (f1.toNat : Int), .int .u16 (a1.toNat : Int), .int .u16 (m1.toNat : Int), .int .u16 (t1.toNat : Int), .slice aw ws.length cw, .slice ab bs.length cb]) (wantedq (j := 15) (d := 91) (want := false) (b := false) rfl (by rw [hops.out]; rfl) (by kernel_rfl) rfl) (fun wC hC => runq_load_row (t := 26) (g := w.heap.size) (fr := (0, 0)) rfl (by kernel_rfl) (HRA wC hC) Try.underlying26 rfl (by kernel_rfl)) ?_
      refine QP.val (.pointer (some ⟨w.heap.size, 0, none⟩)) (wantedq (j := 15) (d := 91) (want := false) (b := false) rfl (by rw [hops.out]; rfl) (by kernel_rfl) rfl) (fun wC hC => by kernel_rfl) ?_
      refine QP.val (.int .u8 (f1.toNat : Int)) (wantedq (j := 15) (d := 91) (want := false) (b := false) rfl (by rw [hops.out]; rfl) (by kernel_rfl) rfl) (fun wC hC => runq_load_int (p := ⟨w.heap.size, 0, none⟩) rfl (by kernel_rfl) (cell_of_row _ _ 0 _ _ _ (HRA wC hC)) Try.underlying5) ?_
      refine QP.val (.int .u8 ((f1 + 1 : UInt8).toNat : Int)) (wantedq (j := 15) (d := 91) (want := false) (b := false) rfl (by rw [hops.out]; rfl) (by kernel_rfl) rfl) (fun wC hC => runq_add (k := .u8) (p := (f1.toNat : Int)) (q := 1) rfl (by kernel_rfl) (by kernel_rfl) (add_one8 f1)) ?_
      refine QP.call 40 #[.int .u8 ((f1 + 1 : UInt8).toNat : Int), .int .u8 1] (.agg #[.int .u8 (((f1 + 1) % 128 : UInt8).toNat : Int), .int .u8 1, .slice none 0 0, .slice none 0 0, .int .u16 0, .int .u16 0]) (wantedq (j := 15) (d := 91) (want := false) (b := false) rfl (by rw [hops.out]; rfl) (by kernel_rfl) rfl) (fun wC hC => (congrArg (fun s => Sem.run Try.prog s wC) (by kernel_rfl)).trans (enters_wrong #[.int .u8 ((f1 + 1 : UInt8).toNat : Int), .int .u8 1] wC)) (fun wC hC => HWR wC hC) ?_
      refine QP.call 41 #[.agg #[.int .u8 (f1.toNat : Int), .int .u16 (a1.toNat : Int), .int .u16 (m1.toNat : Int), .int .u16 (t1.toNat : Int), .slice aw ws.length cw, .slice ab bs.length cb], .agg #[.int .u8 (((f1 + 1) % 128 : UInt8).toNat : Int), .int .u8 1, .slice none 0 0, .slice none 0 0, .int .u16 0, .int .u16 0]] (.bool false) (wantedq (j := 15) (d := 91) (want := false) (b := false) rfl (by rw [hops.out]; rfl) (by kernel_rfl) rfl) (fun wC hC => (congrArg (fun s => Sem.run Try.prog s wC) (by kernel_rfl)).trans (enters_fits #[.agg #[.int .u8 (f1.toNat : Int), .int .u16 (a1.toNat : Int), .int .u16 (m1.toNat : Int), .int .u16 (t1.toNat : Int), .slice aw ws.length cw, .slice ab bs.length cb], .agg #[.int .u8 (((f1 + 1) % 128 : UInt8).toNat : Int), .int .u8 1, .slice none 0 0, .slice none 0 0, .int .u16 0, .int .u16 0]] wC)) (fun wC hC => HF2 wC hC) ?_
      refine QP.val (.bool false) (by rfl) (fun wC hC => runq_pick (c := false) rfl (by kernel_rfl) (by kernel_rfl)) ?_
      refine QP.val (.bool false) (by rfl) (fun wC hC => runq_move rfl (by kernel_rfl)) ?_
      refine QP.val (.bool true) (wantedq (j := 23) (d := 99) (want := false) (b := false) rfl (by rw [hops.out]; rfl) (by kernel_rfl) rfl) (fun wC hC => runq_move rfl (by kernel_rfl)) ?_
      refine QP.val (.bool true) (wantedq (j := 23) (d := 99) (want := false) (b := false) rfl (by rw [hops.out]; rfl) (by kernel_rfl) rfl) (fun wC hC => runq_move rfl (by kernel_rfl)) ?_
      refine QP.val (.agg #[.int .u8 (f1.toNat : Int), .int .u16 (a1.toNat : Int), .int .u16 (m1.toNat : Int), .int .u16 (t1.toNat : Int), .slice aw ws.length cw, .slice ab bs.length cb]) (wantedq (j := 25) (d := 101) (want := true) (b := true) rfl (by rw [hops.out]; rfl) (by kernel_rfl) rfl) (fun wC hC => runq_load_row (t := 26) (g := w.heap.size) (fr := (0, 0)) rfl (by kernel_rfl) (HRA wC hC) Try.underlying26 rfl (by kernel_rfl)) ?_
      refine QP.val (.agg #[.int .u8 (f3.toNat : Int), .int .u8 (x3.toNat : Int), .slice pb es.length dpb, .slice pw us.length dpw, .int .u16 (a3.toNat : Int), .int .u16 (m3.toNat : Int)]) (wantedq (j := 25) (d := 101) (want := true) (b := true) rfl (by rw [hops.out]; rfl) (by kernel_rfl) rfl) (fun wC hC => runq_load_row (t := 48) (g := w1.heap.size) (fr := (0, 0)) rfl (by kernel_rfl) (HR7 wC hC) Try.underlying48 rfl (by kernel_rfl)) ?_
      refine QP.call 41 #[.agg #[.int .u8 (f1.toNat : Int), .int .u16 (a1.toNat : Int), .int .u16 (m1.toNat : Int), .int .u16 (t1.toNat : Int), .slice aw ws.length cw, .slice ab bs.length cb], .agg #[.int .u8 (f3.toNat : Int), .int .u8 (x3.toNat : Int), .slice pb es.length dpb, .slice pw us.length dpw, .int .u16 (a3.toNat : Int), .int .u16 (m3.toNat : Int)]] (.bool true) (wantedq (j := 25) (d := 101) (want := true) (b := true) rfl (by rw [hops.out]; rfl) (by kernel_rfl) rfl) (fun wC hC => (congrArg (fun s => Sem.run Try.prog s wC) (by kernel_rfl)).trans (enters_fits #[.agg #[.int .u8 (f1.toNat : Int), .int .u16 (a1.toNat : Int), .int .u16 (m1.toNat : Int), .int .u16 (t1.toNat : Int), .slice aw ws.length cw, .slice ab bs.length cb], .agg #[.int .u8 (f3.toNat : Int), .int .u8 (x3.toNat : Int), .slice pb es.length dpb, .slice pw us.length dpw, .int .u16 (a3.toNat : Int), .int .u16 (m3.toNat : Int)]] wC)) (fun wC hC => HF3 wC hC) ?_
      refine QP.val (.bool false) (wantedq (j := 25) (d := 101) (want := true) (b := true) rfl (by rw [hops.out]; rfl) (by kernel_rfl) rfl) (fun wC hC => runq_not (c := true) rfl (by kernel_rfl) rfl) ?_
      refine QP.val (.bool false) (wantedq (j := 23) (d := 99) (want := false) (b := false) rfl (by rw [hops.out]; rfl) (by kernel_rfl) rfl) (fun wC hC => runq_pick (c := true) rfl (by kernel_rfl) (by kernel_rfl)) ?_
      refine QP.val (.bool false) (by rfl) (fun wC hC => runq_pick (c := false) rfl (by kernel_rfl) (by kernel_rfl)) ?_
      refine QP.nil (hQ.out _ fun w8 hCw8 => ?_)
      simp only [Act.put, List.setIfInBounds_toArray, List.set_cons_succ, List.set_cons_zero]
      clear hops hQ HF1 HWR HF2 HF3
      go_wp2_with fail
      have HF4 : ∀ W, Below w3.heap.size w3 W → Calls Try.prog 41 #[.agg #[.int .u8 (f1.toNat : Int), .int .u16 (a1.toNat : Int), .int .u16 (m1.toNat : Int), .int .u16 (t1.toNat : Int), .slice aw ws.length cw, .slice ab bs.length cb], .agg #[.int .u8 (f2.toNat : Int), .int .u8 (x2.toNat : Int), .slice ob ds.length db, .slice ow vs.length dw, .int .u16 (a2.toNat : Int), .int .u16 (m2.toNat : Int)]] W fun e W' => e = .returned (.bool z5) ∧ Below w3.heap.size w3 W' := fun W h => (Fits_at _ _ ⟨f1, a1, m1, t1, ws, bs⟩ aw cw ab cb ⟨f2, x2, ds, vs, a2, m2⟩ ow dw ob db W rfl rfl (HAT W h) (HRT W h) hws hbs HZ5.out.2).mono fun _ _ ⟨he, hb⟩ => ⟨he, h.trans (hb.mono h.size)⟩
      have HS5 : ∀ W, Below w3.heap.size w3 W → Calls Try.prog 36 #[.agg #[.int .u8 (f3.toNat : Int), .int .u8 (x3.toNat : Int), .slice pb es.length dpb, .slice pw us.length dpw, .int .u16 (a3.toNat : Int), .int .u16 (m3.toNat : Int)], .agg #[.int .u8 (f2.toNat : Int), .int .u8 (x2.toNat : Int), .slice ob ds.length db, .slice ow vs.length dw, .int .u16 (a2.toNat : Int), .int .u16 (m2.toNat : Int)]] W fun e W' => e = .returned (.bool z5) ∧ Below w3.heap.size w3 W' := fun W h => (RSame_at _ _ ⟨f3, x3, es, us, a3, m3⟩ ⟨f2, x2, ds, vs, a2, m2⟩ pw dpw pb dpb ow dw ob db W rfl rfl (HP.out.below h) (HRT W h)).mono fun _ _ ⟨he, hb⟩ => ⟨by rw [he, HZ5.out.1], h.trans (hb.mono h.size)⟩
      refine region_quiet (fun W => Below w3.heap.size w3 W) (by kernel_rfl) (by kernel_rfl) (hCw8).drew ?_
      intro ops Q' hops hQ
      refine QP.val (.bool true) (by rfl) (fun wC hC => runq_move rfl (by kernel_rfl)) ?_
      refine QP.val (.bool true) (by rfl) (fun wC hC => runq_move rfl (by kernel_rfl)) ?_
      refine QP.val (.pointer (some ⟨w.heap.size + 1, 1, none⟩)) (wantedq (j := 1) (d := 109) (want := true) (b := true) rfl (by rw [hops.out]; rfl) (by kernel_rfl) rfl) (fun wC hC => by kernel_rfl) ?_
      refine QP.val (.int .u8 (x2.toNat : Int)) (wantedq (j := 1) (d := 109) (want := true) (b := true) rfl (by rw [hops.out]; rfl) (by kernel_rfl) rfl) (fun wC hC => runq_load_int (p := ⟨w.heap.size + 1, 1, none⟩) rfl (by kernel_rfl) (cell_of_row _ _ 1 _ _ _ (HRR wC hC)) Try.underlying5) ?_
      refine QP.val (.bool true) (wantedq (j := 1) (d := 109) (want := true) (b := true) rfl (by rw [hops.out]; rfl) (by kernel_rfl) rfl) (fun wC hC => runq_eql (k := .u8) (p := (x2.toNat : Int)) (q := 0) rfl (by kernel_rfl) (by kernel_rfl) (by simp; omega)) ?_
      refine QP.val (.bool true) (by rfl) (fun wC hC => runq_pick (c := true) rfl (by kernel_rfl) (by kernel_rfl)) ?_
      refine QP.val (.bool true) (by rfl) (fun wC hC => runq_move rfl (by kernel_rfl)) ?_
      refine QP.val (.agg #[.int .u8 (f1.toNat : Int), .int .u16 (a1.toNat : Int), .int .u16 (m1.toNat : Int), .int .u16 (t1.toNat : Int), .slice aw ws.length cw, .slice ab bs.length cb]) (wantedq (j := 6) (d := 114) (want := true) (b := true) rfl (by rw [hops.out]; rfl) (by kernel_rfl) rfl) (fun wC hC => runq_load_row (t := 26) (g := w.heap.size) (fr := (0, 0)) rfl (by kernel_rfl) (HRA wC hC) Try.underlying26 rfl (by kernel_rfl)) ?_
      refine QP.val (.agg #[.int .u8 (f2.toNat : Int), .int .u8 (x2.toNat : Int), .slice ob ds.length db, .slice ow vs.length dw, .int .u16 (a2.toNat : Int), .int .u16 (m2.toNat : Int)]) (wantedq (j := 6) (d := 114) (want := true) (b := true) rfl (by rw [hops.out]; rfl) (by kernel_rfl) rfl) (fun wC hC => runq_load_row (t := 48) (g := w.heap.size + 1) (fr := (0, 0)) rfl (by kernel_rfl) (HRR wC hC) Try.underlying48 rfl (by kernel_rfl)) ?_
      refine QP.call 41 #[.agg #[.int .u8 (f1.toNat : Int), .int .u16 (a1.toNat : Int), .int .u16 (m1.toNat : Int), .int .u16 (t1.toNat : Int), .slice aw ws.length cw, .slice ab bs.length cb], .agg #[.int .u8 (f2.toNat : Int), .int .u8 (x2.toNat : Int), .slice ob ds.length db, .slice ow vs.length dw, .int .u16 (a2.toNat : Int), .int .u16 (m2.toNat : Int)]] (.bool z5) (wantedq (j := 6) (d := 114) (want := true) (b := true) rfl (by rw [hops.out]; rfl) (by kernel_rfl) rfl) (fun wC hC => (congrArg (fun s => Sem.run Try.prog s wC) (by kernel_rfl)).trans (enters_fits #[.agg #[.int .u8 (f1.toNat : Int), .int .u16 (a1.toNat : Int), .int .u16 (m1.toNat : Int), .int .u16 (t1.toNat : Int), .slice aw ws.length cw, .slice ab bs.length cb], .agg #[.int .u8 (f2.toNat : Int), .int .u8 (x2.toNat : Int), .slice ob ds.length db, .slice ow vs.length dw, .int .u16 (a2.toNat : Int), .int .u16 (m2.toNat : Int)]] wC)) (fun wC hC => HF4 wC hC) ?_
      refine QP.val (.agg #[.int .u8 (f3.toNat : Int), .int .u8 (x3.toNat : Int), .slice pb es.length dpb, .slice pw us.length dpw, .int .u16 (a3.toNat : Int), .int .u16 (m3.toNat : Int)]) (wantedq (j := 6) (d := 114) (want := true) (b := true) rfl (by rw [hops.out]; rfl) (by kernel_rfl) rfl) (fun wC hC => runq_load_row (t := 48) (g := w1.heap.size) (fr := (0, 0)) rfl (by kernel_rfl) (HR7 wC hC) Try.underlying48 rfl (by kernel_rfl)) ?_
      refine QP.val (.agg #[.int .u8 (f2.toNat : Int), .int .u8 (x2.toNat : Int), .slice ob ds.length db, .slice ow vs.length dw, .int .u16 (a2.toNat : Int), .int .u16 (m2.toNat : Int)]) (wantedq (j := 6) (d := 114) (want := true) (b := true) rfl (by rw [hops.out]; rfl) (by kernel_rfl) rfl) (fun wC hC => runq_load_row (t := 48) (g := w.heap.size + 1) (fr := (0, 0)) rfl (by kernel_rfl) (HRR wC hC) Try.underlying48 rfl (by kernel_rfl)) ?_
      refine QP.call 36 #[.agg #[.int .u8 (f3.toNat : Int), .int .u8 (x3.toNat : Int), .slice pb es.length dpb, .slice pw us.length dpw, .int .u16 (a3.toNat : Int), .int .u16 (m3.toNat : Int)], .agg #[.int .u8 (f2.toNat : Int), .int .u8 (x2.toNat : Int), .slice ob ds.length db, .slice ow vs.length dw, .int .u16 (a2.toNat : Int), .int .u16 (m2.toNat : Int)]] (.bool z5) (wantedq (j := 6) (d := 114) (want := true) (b := true) rfl (by rw [hops.out]; rfl) (by kernel_rfl) rfl) (fun wC hC => (congrArg (fun s => Sem.run Try.prog s wC) (by kernel_rfl)).trans (enters_rsame #[.agg #[.int .u8 (f3.toNat : Int), .int .u8 (x3.toNat : Int), .slice pb es.length dpb, .slice pw us.length dpw, .int .u16 (a3.toNat : Int), .int .u16 (m3.toNat : Int)], .agg #[.int .u8 (f2.toNat : Int), .int .u8 (x2.toNat : Int), .slice ob ds.length db, .slice ow vs.length dw, .int .u16 (a2.toNat : Int), .int .u16 (m2.toNat : Int)]] wC)) (fun wC hC => HS5 wC hC) ?_
      refine QP.val (.bool false) (wantedq (j := 6) (d := 114) (want := true) (b := true) rfl (by rw [hops.out]; rfl) (by kernel_rfl) rfl) (fun wC hC => runq_neqb (p := z5) (q := z5) Try.underlying4 rfl (by kernel_rfl) (by kernel_rfl) (by simp)) ?_
      refine QP.val (.bool false) (by rfl) (fun wC hC => runq_pick (c := true) rfl (by kernel_rfl) (by kernel_rfl)) ?_
      refine QP.nil (hQ.out _ fun w9 hCw9 => ?_)
      simp only [Act.put, List.setIfInBounds_toArray, List.set_cons_succ, List.set_cons_zero]
      clear hops hQ HF4 HS5 hCw8
      have E7 := fun i => cell_of_row _ _ i _ _ _ (HR7 w9 hCw9)
      go_wp2_with fail
      refine (RRight_at _ ⟨f3, x3, es, us, a3, m3⟩ pw dpw pb dpb w9 rfl (HP.out.below hCw9) HER.out.1).mono ?_
      rintro e w10 ⟨rfl, hb10⟩
      clear E7
      have hB10 := hCw9.trans (hb10.mono hCw9.size)
      have E1 := fun i => cell_of_row _ _ i _ _ _ (HRA w10 hB10)
      have E7 := fun i => cell_of_row _ _ i _ _ _ (HR7 w10 hB10)
      have HB8 := Lib.hid (HBX.out.below.trans (hB10.mono HBX.out.below.size))
      clear HR7 HRX HRA HRR HAT HRT hCw9 hB10 hb10
      go_wp2_with fail
      refine (rawake_any _).mono ?_
      rintro e w11 ⟨rfl, hb11⟩
      have HB11 := Lib.hid (HB8.out.trans (hb11.mono HB8.out.size))
      clear E1 E7
      go_wp2_with fail
      go_ret
      exact Says.mk HB11.out
    · have C1 := fun i => cell_of_row _ _ i _ _ _ (HRA w3 hB3)
      go_wp2_with fail
      clear C1
      have HF1 : ∀ W, Below w3.heap.size w3 W → Calls Try.prog 41 #[.agg #[.int .u8 (f1.toNat : Int), .int .u16 (a1.toNat : Int), .int .u16 (m1.toNat : Int), .int .u16 (t1.toNat : Int), .slice aw ws.length cw, .slice ab bs.length cb], .agg #[.int .u8 ((f1 % 128 : UInt8).toNat : Int), .int .u8 (y.toNat : Int), .slice none 0 0, .slice none 0 0, .int .u16 0, .int .u16 0]] W fun e W' => e = .returned (.bool q2) ∧ Below w3.heap.size w3 W' := fun W h => (Fits_at _ _ ⟨f1, a1, m1, t1, ws, bs⟩ aw cw ab cb (wrongN f1 y) none 0 none 0 W rfl rfl (HAT W h) ⟨Sl.none_, Sl.none_⟩ hws hbs HFW.out).mono fun _ _ ⟨he, hb⟩ => ⟨he, h.trans (hb.mono h.size)⟩
      have HWR : ∀ W, Below w3.heap.size w3 W → Calls Try.prog 40 #[.int .u8 ((f1 + 1 : UInt8).toNat : Int), .int .u8 1] W fun e W' => e = .returned (.agg #[.int .u8 (((f1 + 1) % 128 : UInt8).toNat : Int), .int .u8 1, .slice none 0 0, .slice none 0 0, .int .u16 0, .int .u16 0]) ∧ Below w3.heap.size w3 W' := fun W h => (Wrong_any (f1 + 1) 1 W).mono fun _ _ ⟨he, hb⟩ => ⟨he, h.trans (hb.mono h.size)⟩
      have HF2 : ∀ W, Below w3.heap.size w3 W → Calls Try.prog 41 #[.agg #[.int .u8 (f1.toNat : Int), .int .u16 (a1.toNat : Int), .int .u16 (m1.toNat : Int), .int .u16 (t1.toNat : Int), .slice aw ws.length cw, .slice ab bs.length cb], .agg #[.int .u8 (((f1 + 1) % 128 : UInt8).toNat : Int), .int .u8 1, .slice none 0 0, .slice none 0 0, .int .u16 0, .int .u16 0]] W fun e W' => e = .returned (.bool false) ∧ Below w3.heap.size w3 W' := fun W h => (Fits_at _ _ ⟨f1, a1, m1, t1, ws, bs⟩ aw cw ab cb (wrongN (f1 + 1) 1) none 0 none 0 W rfl rfl (HAT W h) ⟨Sl.none_, Sl.none_⟩ hws hbs HFO.out).mono fun _ _ ⟨he, hb⟩ => ⟨he, h.trans (hb.mono h.size)⟩
      have HF3 : ∀ W, Below w3.heap.size w3 W → Calls Try.prog 41 #[.agg #[.int .u8 (f1.toNat : Int), .int .u16 (a1.toNat : Int), .int .u16 (m1.toNat : Int), .int .u16 (t1.toNat : Int), .slice aw ws.length cw, .slice ab bs.length cb], .agg #[.int .u8 (f3.toNat : Int), .int .u8 (x3.toNat : Int), .slice pb es.length dpb, .slice pw us.length dpw, .int .u16 (a3.toNat : Int), .int .u16 (m3.toNat : Int)]] W fun e W' => e = .returned (.bool true) ∧ Below w3.heap.size w3 W' := fun W h => (Fits_at _ _ ⟨f1, a1, m1, t1, ws, bs⟩ aw cw ab cb ⟨f3, x3, es, us, a3, m3⟩ pw dpw pb dpb W rfl rfl (HAT W h) (HP.out.below h) hws hbs HFQ.out).mono fun _ _ ⟨he, hb⟩ => ⟨he, h.trans (hb.mono h.size)⟩
      refine region_quiet (fun W => Below w3.heap.size w3 W) (by kernel_rfl) (by kernel_rfl) (hB3).drew ?_
      intro ops Q' hops hQ
      refine QP.val (.bool true) (by rfl) (fun wC hC => runq_move rfl (by kernel_rfl)) ?_
      refine QP.val (.bool true) (by rfl) (fun wC hC => runq_move rfl (by kernel_rfl)) ?_
      refine QP.val (.bool false) (by rfl) (fun wC hC => runq_neqb (p := true) (q := true) Try.underlying4 rfl (by kernel_rfl) (by kernel_rfl) rfl) ?_
      refine QP.val (.bool false) (by rfl) (fun wC hC => runq_move rfl (by kernel_rfl)) ?_
      refine QP.val (.agg #[.int .u8 (f1.toNat : Int), .int .u16 (a1.toNat : Int), .int .u16 (m1.toNat : Int), .int .u16 (t1.toNat : Int), .slice aw ws.length cw, .slice ab bs.length cb]) (wantedq (j := 3) (d := 79) (want := false) (b := false) rfl (by rw [hops.out]; rfl) (by kernel_rfl) rfl) (fun wC hC => runq_load_row (t := 26) (g := w.heap.size) (fr := (0, 0)) rfl (by kernel_rfl) (HRA wC hC) Try.underlying26 rfl (by kernel_rfl)) ?_
      refine QP.val (.agg #[.int .u8 ((f1 % 128 : UInt8).toNat : Int), .int .u8 (y.toNat : Int), .slice none 0 0, .slice none 0 0, .int .u16 0, .int .u16 0]) (wantedq (j := 3) (d := 79) (want := false) (b := false) rfl (by rw [hops.out]; rfl) (by kernel_rfl) rfl) (fun wC hC => runq_load_row (t := 48) (g := w2.heap.size) (fr := (0, 0)) rfl (by kernel_rfl) (HRX wC hC) Try.underlying48 rfl (by kernel_rfl)) ?_
      refine QP.call 41 #[.agg #[.int .u8 (f1.toNat : Int), .int .u16 (a1.toNat : Int), .int .u16 (m1.toNat : Int), .int .u16 (t1.toNat : Int), .slice aw ws.length cw, .slice ab bs.length cb], .agg #[.int .u8 ((f1 % 128 : UInt8).toNat : Int), .int .u8 (y.toNat : Int), .slice none 0 0, .slice none 0 0, .int .u16 0, .int .u16 0]] (.bool q2) (wantedq (j := 3) (d := 79) (want := false) (b := false) rfl (by rw [hops.out]; rfl) (by kernel_rfl) rfl) (fun wC hC => (congrArg (fun s => Sem.run Try.prog s wC) (by kernel_rfl)).trans (enters_fits #[.agg #[.int .u8 (f1.toNat : Int), .int .u16 (a1.toNat : Int), .int .u16 (m1.toNat : Int), .int .u16 (t1.toNat : Int), .slice aw ws.length cw, .slice ab bs.length cb], .agg #[.int .u8 ((f1 % 128 : UInt8).toNat : Int), .int .u8 (y.toNat : Int), .slice none 0 0, .slice none 0 0, .int .u16 0, .int .u16 0]] wC)) (fun wC hC => HF1 wC hC) ?_
      refine QP.val (.int .u8 (y.toNat : Int)) (wantedq (j := 3) (d := 79) (want := false) (b := false) rfl (by rw [hops.out]; rfl) (by kernel_rfl) rfl) (fun wC hC => runq_move rfl (by kernel_rfl)) ?_
      refine QP.val (.bool true) (wantedq (j := 3) (d := 79) (want := false) (b := false) rfl (by rw [hops.out]; rfl) (by kernel_rfl) rfl) (fun wC hC => runq_geq (k := .u8) (p := (y.toNat : Int)) (q := 1) rfl (by kernel_rfl) (by kernel_rfl) (by simp; omega)) ?_
      refine QP.val (.bool true) (wantedq (j := 3) (d := 79) (want := false) (b := false) rfl (by rw [hops.out]; rfl) (by kernel_rfl) rfl) (fun wC hC => runq_move rfl (by kernel_rfl)) ?_
      refine QP.val (.int .u8 (y.toNat : Int)) (wantedq (j := 9) (d := 85) (want := true) (b := true) rfl (by rw [hops.out]; rfl) (by kernel_rfl) rfl) (fun wC hC => runq_move rfl (by kernel_rfl)) ?_
      refine QP.val (.bool q2) (wantedq (j := 9) (d := 85) (want := true) (b := true) rfl (by rw [hops.out]; rfl) (by kernel_rfl) rfl) (fun wC hC => runq_leq (k := .u8) (p := (y.toNat : Int)) (q := 4) rfl (by kernel_rfl) (by kernel_rfl) HQ2.out) ?_
      refine QP.val (.bool q2) (wantedq (j := 3) (d := 79) (want := false) (b := false) rfl (by rw [hops.out]; rfl) (by kernel_rfl) rfl) (fun wC hC => runq_pick (c := true) rfl (by kernel_rfl) (by kernel_rfl)) ?_
      refine QP.val (.bool false) (wantedq (j := 3) (d := 79) (want := false) (b := false) rfl (by rw [hops.out]; rfl) (by kernel_rfl) rfl) (fun wC hC => runq_neqb (p := q2) (q := q2) Try.underlying4 rfl (by kernel_rfl) (by kernel_rfl) (by simp)) ?_
      refine QP.val (.bool false) (by rfl) (fun wC hC => runq_pick (c := false) rfl (by kernel_rfl) (by kernel_rfl)) ?_
      refine QP.val (.bool false) (by rfl) (fun wC hC => runq_move rfl (by kernel_rfl)) ?_
      refine QP.val (.agg #[.int .u8 (f1.toNat : Int), .int .u16 (a1.toNat : Int), .int .u16 (m1.toNat : Int), .int .u16 (t1.toNat : Int), .slice aw ws.length cw, .slice ab bs.length cb]) (wantedq (j := 15) (d := 91) (want := false) (b := false) rfl (by rw [hops.out]; rfl) (by kernel_rfl) rfl) (fun wC hC => runq_load_row (t := 26) (g := w.heap.size) (fr := (0, 0)) rfl (by kernel_rfl) (HRA wC hC) Try.underlying26 rfl (by kernel_rfl)) ?_
      refine QP.val (.pointer (some ⟨w.heap.size, 0, none⟩)) (wantedq (j := 15) (d := 91) (want := false) (b := false) rfl (by rw [hops.out]; rfl) (by kernel_rfl) rfl) (fun wC hC => by kernel_rfl) ?_
      refine QP.val (.int .u8 (f1.toNat : Int)) (wantedq (j := 15) (d := 91) (want := false) (b := false) rfl (by rw [hops.out]; rfl) (by kernel_rfl) rfl) (fun wC hC => runq_load_int (p := ⟨w.heap.size, 0, none⟩) rfl (by kernel_rfl) (cell_of_row _ _ 0 _ _ _ (HRA wC hC)) Try.underlying5) ?_
      refine QP.val (.int .u8 ((f1 + 1 : UInt8).toNat : Int)) (wantedq (j := 15) (d := 91) (want := false) (b := false) rfl (by rw [hops.out]; rfl) (by kernel_rfl) rfl) (fun wC hC => runq_add (k := .u8) (p := (f1.toNat : Int)) (q := 1) rfl (by kernel_rfl) (by kernel_rfl) (add_one8 f1)) ?_
      refine QP.call 40 #[.int .u8 ((f1 + 1 : UInt8).toNat : Int), .int .u8 1] (.agg #[.int .u8 (((f1 + 1) % 128 : UInt8).toNat : Int), .int .u8 1, .slice none 0 0, .slice none 0 0, .int .u16 0, .int .u16 0]) (wantedq (j := 15) (d := 91) (want := false) (b := false) rfl (by rw [hops.out]; rfl) (by kernel_rfl) rfl) (fun wC hC => (congrArg (fun s => Sem.run Try.prog s wC) (by kernel_rfl)).trans (enters_wrong #[.int .u8 ((f1 + 1 : UInt8).toNat : Int), .int .u8 1] wC)) (fun wC hC => HWR wC hC) ?_
      refine QP.call 41 #[.agg #[.int .u8 (f1.toNat : Int), .int .u16 (a1.toNat : Int), .int .u16 (m1.toNat : Int), .int .u16 (t1.toNat : Int), .slice aw ws.length cw, .slice ab bs.length cb], .agg #[.int .u8 (((f1 + 1) % 128 : UInt8).toNat : Int), .int .u8 1, .slice none 0 0, .slice none 0 0, .int .u16 0, .int .u16 0]] (.bool false) (wantedq (j := 15) (d := 91) (want := false) (b := false) rfl (by rw [hops.out]; rfl) (by kernel_rfl) rfl) (fun wC hC => (congrArg (fun s => Sem.run Try.prog s wC) (by kernel_rfl)).trans (enters_fits #[.agg #[.int .u8 (f1.toNat : Int), .int .u16 (a1.toNat : Int), .int .u16 (m1.toNat : Int), .int .u16 (t1.toNat : Int), .slice aw ws.length cw, .slice ab bs.length cb], .agg #[.int .u8 (((f1 + 1) % 128 : UInt8).toNat : Int), .int .u8 1, .slice none 0 0, .slice none 0 0, .int .u16 0, .int .u16 0]] wC)) (fun wC hC => HF2 wC hC) ?_
      refine QP.val (.bool false) (by rfl) (fun wC hC => runq_pick (c := false) rfl (by kernel_rfl) (by kernel_rfl)) ?_
      refine QP.val (.bool false) (by rfl) (fun wC hC => runq_move rfl (by kernel_rfl)) ?_
      refine QP.val (.bool true) (wantedq (j := 23) (d := 99) (want := false) (b := false) rfl (by rw [hops.out]; rfl) (by kernel_rfl) rfl) (fun wC hC => runq_move rfl (by kernel_rfl)) ?_
      refine QP.val (.bool true) (wantedq (j := 23) (d := 99) (want := false) (b := false) rfl (by rw [hops.out]; rfl) (by kernel_rfl) rfl) (fun wC hC => runq_move rfl (by kernel_rfl)) ?_
      refine QP.val (.agg #[.int .u8 (f1.toNat : Int), .int .u16 (a1.toNat : Int), .int .u16 (m1.toNat : Int), .int .u16 (t1.toNat : Int), .slice aw ws.length cw, .slice ab bs.length cb]) (wantedq (j := 25) (d := 101) (want := true) (b := true) rfl (by rw [hops.out]; rfl) (by kernel_rfl) rfl) (fun wC hC => runq_load_row (t := 26) (g := w.heap.size) (fr := (0, 0)) rfl (by kernel_rfl) (HRA wC hC) Try.underlying26 rfl (by kernel_rfl)) ?_
      refine QP.val (.agg #[.int .u8 (f3.toNat : Int), .int .u8 (x3.toNat : Int), .slice pb es.length dpb, .slice pw us.length dpw, .int .u16 (a3.toNat : Int), .int .u16 (m3.toNat : Int)]) (wantedq (j := 25) (d := 101) (want := true) (b := true) rfl (by rw [hops.out]; rfl) (by kernel_rfl) rfl) (fun wC hC => runq_load_row (t := 48) (g := w1.heap.size) (fr := (0, 0)) rfl (by kernel_rfl) (HR7 wC hC) Try.underlying48 rfl (by kernel_rfl)) ?_
      refine QP.call 41 #[.agg #[.int .u8 (f1.toNat : Int), .int .u16 (a1.toNat : Int), .int .u16 (m1.toNat : Int), .int .u16 (t1.toNat : Int), .slice aw ws.length cw, .slice ab bs.length cb], .agg #[.int .u8 (f3.toNat : Int), .int .u8 (x3.toNat : Int), .slice pb es.length dpb, .slice pw us.length dpw, .int .u16 (a3.toNat : Int), .int .u16 (m3.toNat : Int)]] (.bool true) (wantedq (j := 25) (d := 101) (want := true) (b := true) rfl (by rw [hops.out]; rfl) (by kernel_rfl) rfl) (fun wC hC => (congrArg (fun s => Sem.run Try.prog s wC) (by kernel_rfl)).trans (enters_fits #[.agg #[.int .u8 (f1.toNat : Int), .int .u16 (a1.toNat : Int), .int .u16 (m1.toNat : Int), .int .u16 (t1.toNat : Int), .slice aw ws.length cw, .slice ab bs.length cb], .agg #[.int .u8 (f3.toNat : Int), .int .u8 (x3.toNat : Int), .slice pb es.length dpb, .slice pw us.length dpw, .int .u16 (a3.toNat : Int), .int .u16 (m3.toNat : Int)]] wC)) (fun wC hC => HF3 wC hC) ?_
      refine QP.val (.bool false) (wantedq (j := 25) (d := 101) (want := true) (b := true) rfl (by rw [hops.out]; rfl) (by kernel_rfl) rfl) (fun wC hC => runq_not (c := true) rfl (by kernel_rfl) rfl) ?_
      refine QP.val (.bool false) (wantedq (j := 23) (d := 99) (want := false) (b := false) rfl (by rw [hops.out]; rfl) (by kernel_rfl) rfl) (fun wC hC => runq_pick (c := true) rfl (by kernel_rfl) (by kernel_rfl)) ?_
      refine QP.val (.bool false) (by rfl) (fun wC hC => runq_pick (c := false) rfl (by kernel_rfl) (by kernel_rfl)) ?_
      refine QP.nil (hQ.out _ fun w8 hCw8 => ?_)
      simp only [Act.put, List.setIfInBounds_toArray, List.set_cons_succ, List.set_cons_zero]
      clear hops hQ HF1 HWR HF2 HF3
      go_wp2_with fail
      refine region_quiet (fun W => Below w3.heap.size w3 W) (by kernel_rfl) (by kernel_rfl) (hCw8).drew ?_
      intro ops Q' hops hQ
      refine QP.val (.bool true) (by rfl) (fun wC hC => runq_move rfl (by kernel_rfl)) ?_
      refine QP.val (.bool true) (by rfl) (fun wC hC => runq_move rfl (by kernel_rfl)) ?_
      refine QP.val (.pointer (some ⟨w.heap.size + 1, 1, none⟩)) (wantedq (j := 1) (d := 109) (want := true) (b := true) rfl (by rw [hops.out]; rfl) (by kernel_rfl) rfl) (fun wC hC => by kernel_rfl) ?_
      refine QP.val (.int .u8 (x2.toNat : Int)) (wantedq (j := 1) (d := 109) (want := true) (b := true) rfl (by rw [hops.out]; rfl) (by kernel_rfl) rfl) (fun wC hC => runq_load_int (p := ⟨w.heap.size + 1, 1, none⟩) rfl (by kernel_rfl) (cell_of_row _ _ 1 _ _ _ (HRR wC hC)) Try.underlying5) ?_
      refine QP.val (.bool false) (wantedq (j := 1) (d := 109) (want := true) (b := true) rfl (by rw [hops.out]; rfl) (by kernel_rfl) rfl) (fun wC hC => runq_eql (k := .u8) (p := (x2.toNat : Int)) (q := 0) rfl (by kernel_rfl) (by kernel_rfl) (by simp; omega)) ?_
      refine QP.val (.bool false) (by rfl) (fun wC hC => runq_pick (c := true) rfl (by kernel_rfl) (by kernel_rfl)) ?_
      refine QP.val (.bool false) (by rfl) (fun wC hC => runq_move rfl (by kernel_rfl)) ?_
      refine QP.skip (wantedq (j := 6) (d := 114) (want := true) (b := false) rfl (by rw [hops.out]; rfl) (by kernel_rfl) rfl) ?_
      refine QP.skip (wantedq (j := 6) (d := 114) (want := true) (b := false) rfl (by rw [hops.out]; rfl) (by kernel_rfl) rfl) ?_
      refine QP.skip (wantedq (j := 6) (d := 114) (want := true) (b := false) rfl (by rw [hops.out]; rfl) (by kernel_rfl) rfl) ?_
      refine QP.skip (wantedq (j := 6) (d := 114) (want := true) (b := false) rfl (by rw [hops.out]; rfl) (by kernel_rfl) rfl) ?_
      refine QP.skip (wantedq (j := 6) (d := 114) (want := true) (b := false) rfl (by rw [hops.out]; rfl) (by kernel_rfl) rfl) ?_
      refine QP.skip (wantedq (j := 6) (d := 114) (want := true) (b := false) rfl (by rw [hops.out]; rfl) (by kernel_rfl) rfl) ?_
      refine QP.skip (wantedq (j := 6) (d := 114) (want := true) (b := false) rfl (by rw [hops.out]; rfl) (by kernel_rfl) rfl) ?_
      refine QP.val (.bool false) (by rfl) (fun wC hC => runq_pick (c := false) rfl (by kernel_rfl) (by kernel_rfl)) ?_
      refine QP.nil (hQ.out _ fun w9 hCw9 => ?_)
      simp only [Act.put, List.setIfInBounds_toArray, List.set_cons_succ, List.set_cons_zero]
      clear hops hQ hCw8
      have E7 := fun i => cell_of_row _ _ i _ _ _ (HR7 w9 hCw9)
      go_wp2_with fail
      refine (RRight_at _ ⟨f3, x3, es, us, a3, m3⟩ pw dpw pb dpb w9 rfl (HP.out.below hCw9) HER.out.1).mono ?_
      rintro e w10 ⟨rfl, hb10⟩
      clear E7
      have hB10 := hCw9.trans (hb10.mono hCw9.size)
      have E1 := fun i => cell_of_row _ _ i _ _ _ (HRA w10 hB10)
      have E7 := fun i => cell_of_row _ _ i _ _ _ (HR7 w10 hB10)
      have HB8 := Lib.hid (HBX.out.below.trans (hB10.mono HBX.out.below.size))
      clear HR7 HRX HRA HRR HAT HRT hCw9 hB10 hb10
      go_wp2_with fail
      refine (rawake_any _).mono ?_
      rintro e w11 ⟨rfl, hb11⟩
      have HB11 := Lib.hid (HB8.out.trans (hb11.mono HB8.out.size))
      clear E1 E7
      go_wp2_with fail
      go_ret
      exact Says.mk HB11.out
  · have HFW : Hid (fitsN ⟨f1, a1, m1, t1, ws, bs⟩ (wrongN f1 y) = false) := Lib.hid (by rw [HFWA.out y, decide_eq_false hy, Bool.false_and])
    by_cases hx20 : x2.toNat = 0
    · have HZ5 := Lib.hid (HZ5A.out hx20)
      have C1 := fun i => cell_of_row _ _ i _ _ _ (HRA w3 hB3)
      go_wp2_with fail
      clear C1
      have HF1 : ∀ W, Below w3.heap.size w3 W → Calls Try.prog 41 #[.agg #[.int .u8 (f1.toNat : Int), .int .u16 (a1.toNat : Int), .int .u16 (m1.toNat : Int), .int .u16 (t1.toNat : Int), .slice aw ws.length cw, .slice ab bs.length cb], .agg #[.int .u8 ((f1 % 128 : UInt8).toNat : Int), .int .u8 (y.toNat : Int), .slice none 0 0, .slice none 0 0, .int .u16 0, .int .u16 0]] W fun e W' => e = .returned (.bool false) ∧ Below w3.heap.size w3 W' := fun W h => (Fits_at _ _ ⟨f1, a1, m1, t1, ws, bs⟩ aw cw ab cb (wrongN f1 y) none 0 none 0 W rfl rfl (HAT W h) ⟨Sl.none_, Sl.none_⟩ hws hbs HFW.out).mono fun _ _ ⟨he, hb⟩ => ⟨he, h.trans (hb.mono h.size)⟩
      have HWR : ∀ W, Below w3.heap.size w3 W → Calls Try.prog 40 #[.int .u8 ((f1 + 1 : UInt8).toNat : Int), .int .u8 1] W fun e W' => e = .returned (.agg #[.int .u8 (((f1 + 1) % 128 : UInt8).toNat : Int), .int .u8 1, .slice none 0 0, .slice none 0 0, .int .u16 0, .int .u16 0]) ∧ Below w3.heap.size w3 W' := fun W h => (Wrong_any (f1 + 1) 1 W).mono fun _ _ ⟨he, hb⟩ => ⟨he, h.trans (hb.mono h.size)⟩
      have HF2 : ∀ W, Below w3.heap.size w3 W → Calls Try.prog 41 #[.agg #[.int .u8 (f1.toNat : Int), .int .u16 (a1.toNat : Int), .int .u16 (m1.toNat : Int), .int .u16 (t1.toNat : Int), .slice aw ws.length cw, .slice ab bs.length cb], .agg #[.int .u8 (((f1 + 1) % 128 : UInt8).toNat : Int), .int .u8 1, .slice none 0 0, .slice none 0 0, .int .u16 0, .int .u16 0]] W fun e W' => e = .returned (.bool false) ∧ Below w3.heap.size w3 W' := fun W h => (Fits_at _ _ ⟨f1, a1, m1, t1, ws, bs⟩ aw cw ab cb (wrongN (f1 + 1) 1) none 0 none 0 W rfl rfl (HAT W h) ⟨Sl.none_, Sl.none_⟩ hws hbs HFO.out).mono fun _ _ ⟨he, hb⟩ => ⟨he, h.trans (hb.mono h.size)⟩
      have HF3 : ∀ W, Below w3.heap.size w3 W → Calls Try.prog 41 #[.agg #[.int .u8 (f1.toNat : Int), .int .u16 (a1.toNat : Int), .int .u16 (m1.toNat : Int), .int .u16 (t1.toNat : Int), .slice aw ws.length cw, .slice ab bs.length cb], .agg #[.int .u8 (f3.toNat : Int), .int .u8 (x3.toNat : Int), .slice pb es.length dpb, .slice pw us.length dpw, .int .u16 (a3.toNat : Int), .int .u16 (m3.toNat : Int)]] W fun e W' => e = .returned (.bool true) ∧ Below w3.heap.size w3 W' := fun W h => (Fits_at _ _ ⟨f1, a1, m1, t1, ws, bs⟩ aw cw ab cb ⟨f3, x3, es, us, a3, m3⟩ pw dpw pb dpb W rfl rfl (HAT W h) (HP.out.below h) hws hbs HFQ.out).mono fun _ _ ⟨he, hb⟩ => ⟨he, h.trans (hb.mono h.size)⟩
      refine region_quiet (fun W => Below w3.heap.size w3 W) (by kernel_rfl) (by kernel_rfl) (hB3).drew ?_
      intro ops Q' hops hQ
      refine QP.val (.bool true) (by rfl) (fun wC hC => runq_move rfl (by kernel_rfl)) ?_
      refine QP.val (.bool true) (by rfl) (fun wC hC => runq_move rfl (by kernel_rfl)) ?_
      refine QP.val (.bool false) (by rfl) (fun wC hC => runq_neqb (p := true) (q := true) Try.underlying4 rfl (by kernel_rfl) (by kernel_rfl) rfl) ?_
      refine QP.val (.bool false) (by rfl) (fun wC hC => runq_move rfl (by kernel_rfl)) ?_
      refine QP.val (.agg #[.int .u8 (f1.toNat : Int), .int .u16 (a1.toNat : Int), .int .u16 (m1.toNat : Int), .int .u16 (t1.toNat : Int), .slice aw ws.length cw, .slice ab bs.length cb]) (wantedq (j := 3) (d := 79) (want := false) (b := false) rfl (by rw [hops.out]; rfl) (by kernel_rfl) rfl) (fun wC hC => runq_load_row (t := 26) (g := w.heap.size) (fr := (0, 0)) rfl (by kernel_rfl) (HRA wC hC) Try.underlying26 rfl (by kernel_rfl)) ?_
      refine QP.val (.agg #[.int .u8 ((f1 % 128 : UInt8).toNat : Int), .int .u8 (y.toNat : Int), .slice none 0 0, .slice none 0 0, .int .u16 0, .int .u16 0]) (wantedq (j := 3) (d := 79) (want := false) (b := false) rfl (by rw [hops.out]; rfl) (by kernel_rfl) rfl) (fun wC hC => runq_load_row (t := 48) (g := w2.heap.size) (fr := (0, 0)) rfl (by kernel_rfl) (HRX wC hC) Try.underlying48 rfl (by kernel_rfl)) ?_
      refine QP.call 41 #[.agg #[.int .u8 (f1.toNat : Int), .int .u16 (a1.toNat : Int), .int .u16 (m1.toNat : Int), .int .u16 (t1.toNat : Int), .slice aw ws.length cw, .slice ab bs.length cb], .agg #[.int .u8 ((f1 % 128 : UInt8).toNat : Int), .int .u8 (y.toNat : Int), .slice none 0 0, .slice none 0 0, .int .u16 0, .int .u16 0]] (.bool false) (wantedq (j := 3) (d := 79) (want := false) (b := false) rfl (by rw [hops.out]; rfl) (by kernel_rfl) rfl) (fun wC hC => (congrArg (fun s => Sem.run Try.prog s wC) (by kernel_rfl)).trans (enters_fits #[.agg #[.int .u8 (f1.toNat : Int), .int .u16 (a1.toNat : Int), .int .u16 (m1.toNat : Int), .int .u16 (t1.toNat : Int), .slice aw ws.length cw, .slice ab bs.length cb], .agg #[.int .u8 ((f1 % 128 : UInt8).toNat : Int), .int .u8 (y.toNat : Int), .slice none 0 0, .slice none 0 0, .int .u16 0, .int .u16 0]] wC)) (fun wC hC => HF1 wC hC) ?_
      refine QP.val (.int .u8 (y.toNat : Int)) (wantedq (j := 3) (d := 79) (want := false) (b := false) rfl (by rw [hops.out]; rfl) (by kernel_rfl) rfl) (fun wC hC => runq_move rfl (by kernel_rfl)) ?_
      refine QP.val (.bool false) (wantedq (j := 3) (d := 79) (want := false) (b := false) rfl (by rw [hops.out]; rfl) (by kernel_rfl) rfl) (fun wC hC => runq_geq (k := .u8) (p := (y.toNat : Int)) (q := 1) rfl (by kernel_rfl) (by kernel_rfl) (by simp; omega)) ?_
      refine QP.val (.bool false) (wantedq (j := 3) (d := 79) (want := false) (b := false) rfl (by rw [hops.out]; rfl) (by kernel_rfl) rfl) (fun wC hC => runq_move rfl (by kernel_rfl)) ?_
      refine QP.skip (wantedq (j := 9) (d := 85) (want := true) (b := false) rfl (by rw [hops.out]; rfl) (by kernel_rfl) rfl) ?_
      refine QP.skip (wantedq (j := 9) (d := 85) (want := true) (b := false) rfl (by rw [hops.out]; rfl) (by kernel_rfl) rfl) ?_
      refine QP.val (.bool false) (wantedq (j := 3) (d := 79) (want := false) (b := false) rfl (by rw [hops.out]; rfl) (by kernel_rfl) rfl) (fun wC hC => runq_pick (c := false) rfl (by kernel_rfl) (by kernel_rfl)) ?_
      refine QP.val (.bool false) (wantedq (j := 3) (d := 79) (want := false) (b := false) rfl (by rw [hops.out]; rfl) (by kernel_rfl) rfl) (fun wC hC => runq_neqb (p := false) (q := false) Try.underlying4 rfl (by kernel_rfl) (by kernel_rfl) rfl) ?_
      refine QP.val (.bool false) (by rfl) (fun wC hC => runq_pick (c := false) rfl (by kernel_rfl) (by kernel_rfl)) ?_
      refine QP.val (.bool false) (by rfl) (fun wC hC => runq_move rfl (by kernel_rfl)) ?_
      refine QP.val (.agg #[.int .u8 (f1.toNat : Int), .int .u16 (a1.toNat : Int), .int .u16 (m1.toNat : Int), .int .u16 (t1.toNat : Int), .slice aw ws.length cw, .slice ab bs.length cb]) (wantedq (j := 15) (d := 91) (want := false) (b := false) rfl (by rw [hops.out]; rfl) (by kernel_rfl) rfl) (fun wC hC => runq_load_row (t := 26) (g := w.heap.size) (fr := (0, 0)) rfl (by kernel_rfl) (HRA wC hC) Try.underlying26 rfl (by kernel_rfl)) ?_
      refine QP.val (.pointer (some ⟨w.heap.size, 0, none⟩)) (wantedq (j := 15) (d := 91) (want := false) (b := false) rfl (by rw [hops.out]; rfl) (by kernel_rfl) rfl) (fun wC hC => by kernel_rfl) ?_
      refine QP.val (.int .u8 (f1.toNat : Int)) (wantedq (j := 15) (d := 91) (want := false) (b := false) rfl (by rw [hops.out]; rfl) (by kernel_rfl) rfl) (fun wC hC => runq_load_int (p := ⟨w.heap.size, 0, none⟩) rfl (by kernel_rfl) (cell_of_row _ _ 0 _ _ _ (HRA wC hC)) Try.underlying5) ?_
      refine QP.val (.int .u8 ((f1 + 1 : UInt8).toNat : Int)) (wantedq (j := 15) (d := 91) (want := false) (b := false) rfl (by rw [hops.out]; rfl) (by kernel_rfl) rfl) (fun wC hC => runq_add (k := .u8) (p := (f1.toNat : Int)) (q := 1) rfl (by kernel_rfl) (by kernel_rfl) (add_one8 f1)) ?_
      refine QP.call 40 #[.int .u8 ((f1 + 1 : UInt8).toNat : Int), .int .u8 1] (.agg #[.int .u8 (((f1 + 1) % 128 : UInt8).toNat : Int), .int .u8 1, .slice none 0 0, .slice none 0 0, .int .u16 0, .int .u16 0]) (wantedq (j := 15) (d := 91) (want := false) (b := false) rfl (by rw [hops.out]; rfl) (by kernel_rfl) rfl) (fun wC hC => (congrArg (fun s => Sem.run Try.prog s wC) (by kernel_rfl)).trans (enters_wrong #[.int .u8 ((f1 + 1 : UInt8).toNat : Int), .int .u8 1] wC)) (fun wC hC => HWR wC hC) ?_
      refine QP.call 41 #[.agg #[.int .u8 (f1.toNat : Int), .int .u16 (a1.toNat : Int), .int .u16 (m1.toNat : Int), .int .u16 (t1.toNat : Int), .slice aw ws.length cw, .slice ab bs.length cb], .agg #[.int .u8 (((f1 + 1) % 128 : UInt8).toNat : Int), .int .u8 1, .slice none 0 0, .slice none 0 0, .int .u16 0, .int .u16 0]] (.bool false) (wantedq (j := 15) (d := 91) (want := false) (b := false) rfl (by rw [hops.out]; rfl) (by kernel_rfl) rfl) (fun wC hC => (congrArg (fun s => Sem.run Try.prog s wC) (by kernel_rfl)).trans (enters_fits #[.agg #[.int .u8 (f1.toNat : Int), .int .u16 (a1.toNat : Int), .int .u16 (m1.toNat : Int), .int .u16 (t1.toNat : Int), .slice aw ws.length cw, .slice ab bs.length cb], .agg #[.int .u8 (((f1 + 1) % 128 : UInt8).toNat : Int), .int .u8 1, .slice none 0 0, .slice none 0 0, .int .u16 0, .int .u16 0]] wC)) (fun wC hC => HF2 wC hC) ?_
      refine QP.val (.bool false) (by rfl) (fun wC hC => runq_pick (c := false) rfl (by kernel_rfl) (by kernel_rfl)) ?_
      refine QP.val (.bool false) (by rfl) (fun wC hC => runq_move rfl (by kernel_rfl)) ?_
      refine QP.val (.bool true) (wantedq (j := 23) (d := 99) (want := false) (b := false) rfl (by rw [hops.out]; rfl) (by kernel_rfl) rfl) (fun wC hC => runq_move rfl (by kernel_rfl)) ?_
      refine QP.val (.bool true) (wantedq (j := 23) (d := 99) (want := false) (b := false) rfl (by rw [hops.out]; rfl) (by kernel_rfl) rfl) (fun wC hC => runq_move rfl (by kernel_rfl)) ?_
      refine QP.val (.agg #[.int .u8 (f1.toNat : Int), .int .u16 (a1.toNat : Int), .int .u16 (m1.toNat : Int), .int .u16 (t1.toNat : Int), .slice aw ws.length cw, .slice ab bs.length cb]) (wantedq (j := 25) (d := 101) (want := true) (b := true) rfl (by rw [hops.out]; rfl) (by kernel_rfl) rfl) (fun wC hC => runq_load_row (t := 26) (g := w.heap.size) (fr := (0, 0)) rfl (by kernel_rfl) (HRA wC hC) Try.underlying26 rfl (by kernel_rfl)) ?_
      refine QP.val (.agg #[.int .u8 (f3.toNat : Int), .int .u8 (x3.toNat : Int), .slice pb es.length dpb, .slice pw us.length dpw, .int .u16 (a3.toNat : Int), .int .u16 (m3.toNat : Int)]) (wantedq (j := 25) (d := 101) (want := true) (b := true) rfl (by rw [hops.out]; rfl) (by kernel_rfl) rfl) (fun wC hC => runq_load_row (t := 48) (g := w1.heap.size) (fr := (0, 0)) rfl (by kernel_rfl) (HR7 wC hC) Try.underlying48 rfl (by kernel_rfl)) ?_
      refine QP.call 41 #[.agg #[.int .u8 (f1.toNat : Int), .int .u16 (a1.toNat : Int), .int .u16 (m1.toNat : Int), .int .u16 (t1.toNat : Int), .slice aw ws.length cw, .slice ab bs.length cb], .agg #[.int .u8 (f3.toNat : Int), .int .u8 (x3.toNat : Int), .slice pb es.length dpb, .slice pw us.length dpw, .int .u16 (a3.toNat : Int), .int .u16 (m3.toNat : Int)]] (.bool true) (wantedq (j := 25) (d := 101) (want := true) (b := true) rfl (by rw [hops.out]; rfl) (by kernel_rfl) rfl) (fun wC hC => (congrArg (fun s => Sem.run Try.prog s wC) (by kernel_rfl)).trans (enters_fits #[.agg #[.int .u8 (f1.toNat : Int), .int .u16 (a1.toNat : Int), .int .u16 (m1.toNat : Int), .int .u16 (t1.toNat : Int), .slice aw ws.length cw, .slice ab bs.length cb], .agg #[.int .u8 (f3.toNat : Int), .int .u8 (x3.toNat : Int), .slice pb es.length dpb, .slice pw us.length dpw, .int .u16 (a3.toNat : Int), .int .u16 (m3.toNat : Int)]] wC)) (fun wC hC => HF3 wC hC) ?_
      refine QP.val (.bool false) (wantedq (j := 25) (d := 101) (want := true) (b := true) rfl (by rw [hops.out]; rfl) (by kernel_rfl) rfl) (fun wC hC => runq_not (c := true) rfl (by kernel_rfl) rfl) ?_
      refine QP.val (.bool false) (wantedq (j := 23) (d := 99) (want := false) (b := false) rfl (by rw [hops.out]; rfl) (by kernel_rfl) rfl) (fun wC hC => runq_pick (c := true) rfl (by kernel_rfl) (by kernel_rfl)) ?_
      refine QP.val (.bool false) (by rfl) (fun wC hC => runq_pick (c := false) rfl (by kernel_rfl) (by kernel_rfl)) ?_
      refine QP.nil (hQ.out _ fun w8 hCw8 => ?_)
      simp only [Act.put, List.setIfInBounds_toArray, List.set_cons_succ, List.set_cons_zero]
      clear hops hQ HF1 HWR HF2 HF3
      go_wp2_with fail
      have HF4 : ∀ W, Below w3.heap.size w3 W → Calls Try.prog 41 #[.agg #[.int .u8 (f1.toNat : Int), .int .u16 (a1.toNat : Int), .int .u16 (m1.toNat : Int), .int .u16 (t1.toNat : Int), .slice aw ws.length cw, .slice ab bs.length cb], .agg #[.int .u8 (f2.toNat : Int), .int .u8 (x2.toNat : Int), .slice ob ds.length db, .slice ow vs.length dw, .int .u16 (a2.toNat : Int), .int .u16 (m2.toNat : Int)]] W fun e W' => e = .returned (.bool z5) ∧ Below w3.heap.size w3 W' := fun W h => (Fits_at _ _ ⟨f1, a1, m1, t1, ws, bs⟩ aw cw ab cb ⟨f2, x2, ds, vs, a2, m2⟩ ow dw ob db W rfl rfl (HAT W h) (HRT W h) hws hbs HZ5.out.2).mono fun _ _ ⟨he, hb⟩ => ⟨he, h.trans (hb.mono h.size)⟩
      have HS5 : ∀ W, Below w3.heap.size w3 W → Calls Try.prog 36 #[.agg #[.int .u8 (f3.toNat : Int), .int .u8 (x3.toNat : Int), .slice pb es.length dpb, .slice pw us.length dpw, .int .u16 (a3.toNat : Int), .int .u16 (m3.toNat : Int)], .agg #[.int .u8 (f2.toNat : Int), .int .u8 (x2.toNat : Int), .slice ob ds.length db, .slice ow vs.length dw, .int .u16 (a2.toNat : Int), .int .u16 (m2.toNat : Int)]] W fun e W' => e = .returned (.bool z5) ∧ Below w3.heap.size w3 W' := fun W h => (RSame_at _ _ ⟨f3, x3, es, us, a3, m3⟩ ⟨f2, x2, ds, vs, a2, m2⟩ pw dpw pb dpb ow dw ob db W rfl rfl (HP.out.below h) (HRT W h)).mono fun _ _ ⟨he, hb⟩ => ⟨by rw [he, HZ5.out.1], h.trans (hb.mono h.size)⟩
      refine region_quiet (fun W => Below w3.heap.size w3 W) (by kernel_rfl) (by kernel_rfl) (hCw8).drew ?_
      intro ops Q' hops hQ
      refine QP.val (.bool true) (by rfl) (fun wC hC => runq_move rfl (by kernel_rfl)) ?_
      refine QP.val (.bool true) (by rfl) (fun wC hC => runq_move rfl (by kernel_rfl)) ?_
      refine QP.val (.pointer (some ⟨w.heap.size + 1, 1, none⟩)) (wantedq (j := 1) (d := 109) (want := true) (b := true) rfl (by rw [hops.out]; rfl) (by kernel_rfl) rfl) (fun wC hC => by kernel_rfl) ?_
      refine QP.val (.int .u8 (x2.toNat : Int)) (wantedq (j := 1) (d := 109) (want := true) (b := true) rfl (by rw [hops.out]; rfl) (by kernel_rfl) rfl) (fun wC hC => runq_load_int (p := ⟨w.heap.size + 1, 1, none⟩) rfl (by kernel_rfl) (cell_of_row _ _ 1 _ _ _ (HRR wC hC)) Try.underlying5) ?_
      refine QP.val (.bool true) (wantedq (j := 1) (d := 109) (want := true) (b := true) rfl (by rw [hops.out]; rfl) (by kernel_rfl) rfl) (fun wC hC => runq_eql (k := .u8) (p := (x2.toNat : Int)) (q := 0) rfl (by kernel_rfl) (by kernel_rfl) (by simp; omega)) ?_
      refine QP.val (.bool true) (by rfl) (fun wC hC => runq_pick (c := true) rfl (by kernel_rfl) (by kernel_rfl)) ?_
      refine QP.val (.bool true) (by rfl) (fun wC hC => runq_move rfl (by kernel_rfl)) ?_
      refine QP.val (.agg #[.int .u8 (f1.toNat : Int), .int .u16 (a1.toNat : Int), .int .u16 (m1.toNat : Int), .int .u16 (t1.toNat : Int), .slice aw ws.length cw, .slice ab bs.length cb]) (wantedq (j := 6) (d := 114) (want := true) (b := true) rfl (by rw [hops.out]; rfl) (by kernel_rfl) rfl) (fun wC hC => runq_load_row (t := 26) (g := w.heap.size) (fr := (0, 0)) rfl (by kernel_rfl) (HRA wC hC) Try.underlying26 rfl (by kernel_rfl)) ?_
      refine QP.val (.agg #[.int .u8 (f2.toNat : Int), .int .u8 (x2.toNat : Int), .slice ob ds.length db, .slice ow vs.length dw, .int .u16 (a2.toNat : Int), .int .u16 (m2.toNat : Int)]) (wantedq (j := 6) (d := 114) (want := true) (b := true) rfl (by rw [hops.out]; rfl) (by kernel_rfl) rfl) (fun wC hC => runq_load_row (t := 48) (g := w.heap.size + 1) (fr := (0, 0)) rfl (by kernel_rfl) (HRR wC hC) Try.underlying48 rfl (by kernel_rfl)) ?_
      refine QP.call 41 #[.agg #[.int .u8 (f1.toNat : Int), .int .u16 (a1.toNat : Int), .int .u16 (m1.toNat : Int), .int .u16 (t1.toNat : Int), .slice aw ws.length cw, .slice ab bs.length cb], .agg #[.int .u8 (f2.toNat : Int), .int .u8 (x2.toNat : Int), .slice ob ds.length db, .slice ow vs.length dw, .int .u16 (a2.toNat : Int), .int .u16 (m2.toNat : Int)]] (.bool z5) (wantedq (j := 6) (d := 114) (want := true) (b := true) rfl (by rw [hops.out]; rfl) (by kernel_rfl) rfl) (fun wC hC => (congrArg (fun s => Sem.run Try.prog s wC) (by kernel_rfl)).trans (enters_fits #[.agg #[.int .u8 (f1.toNat : Int), .int .u16 (a1.toNat : Int), .int .u16 (m1.toNat : Int), .int .u16 (t1.toNat : Int), .slice aw ws.length cw, .slice ab bs.length cb], .agg #[.int .u8 (f2.toNat : Int), .int .u8 (x2.toNat : Int), .slice ob ds.length db, .slice ow vs.length dw, .int .u16 (a2.toNat : Int), .int .u16 (m2.toNat : Int)]] wC)) (fun wC hC => HF4 wC hC) ?_
      refine QP.val (.agg #[.int .u8 (f3.toNat : Int), .int .u8 (x3.toNat : Int), .slice pb es.length dpb, .slice pw us.length dpw, .int .u16 (a3.toNat : Int), .int .u16 (m3.toNat : Int)]) (wantedq (j := 6) (d := 114) (want := true) (b := true) rfl (by rw [hops.out]; rfl) (by kernel_rfl) rfl) (fun wC hC => runq_load_row (t := 48) (g := w1.heap.size) (fr := (0, 0)) rfl (by kernel_rfl) (HR7 wC hC) Try.underlying48 rfl (by kernel_rfl)) ?_
      refine QP.val (.agg #[.int .u8 (f2.toNat : Int), .int .u8 (x2.toNat : Int), .slice ob ds.length db, .slice ow vs.length dw, .int .u16 (a2.toNat : Int), .int .u16 (m2.toNat : Int)]) (wantedq (j := 6) (d := 114) (want := true) (b := true) rfl (by rw [hops.out]; rfl) (by kernel_rfl) rfl) (fun wC hC => runq_load_row (t := 48) (g := w.heap.size + 1) (fr := (0, 0)) rfl (by kernel_rfl) (HRR wC hC) Try.underlying48 rfl (by kernel_rfl)) ?_
      refine QP.call 36 #[.agg #[.int .u8 (f3.toNat : Int), .int .u8 (x3.toNat : Int), .slice pb es.length dpb, .slice pw us.length dpw, .int .u16 (a3.toNat : Int), .int .u16 (m3.toNat : Int)], .agg #[.int .u8 (f2.toNat : Int), .int .u8 (x2.toNat : Int), .slice ob ds.length db, .slice ow vs.length dw, .int .u16 (a2.toNat : Int), .int .u16 (m2.toNat : Int)]] (.bool z5) (wantedq (j := 6) (d := 114) (want := true) (b := true) rfl (by rw [hops.out]; rfl) (by kernel_rfl) rfl) (fun wC hC => (congrArg (fun s => Sem.run Try.prog s wC) (by kernel_rfl)).trans (enters_rsame #[.agg #[.int .u8 (f3.toNat : Int), .int .u8 (x3.toNat : Int), .slice pb es.length dpb, .slice pw us.length dpw, .int .u16 (a3.toNat : Int), .int .u16 (m3.toNat : Int)], .agg #[.int .u8 (f2.toNat : Int), .int .u8 (x2.toNat : Int), .slice ob ds.length db, .slice ow vs.length dw, .int .u16 (a2.toNat : Int), .int .u16 (m2.toNat : Int)]] wC)) (fun wC hC => HS5 wC hC) ?_
      refine QP.val (.bool false) (wantedq (j := 6) (d := 114) (want := true) (b := true) rfl (by rw [hops.out]; rfl) (by kernel_rfl) rfl) (fun wC hC => runq_neqb (p := z5) (q := z5) Try.underlying4 rfl (by kernel_rfl) (by kernel_rfl) (by simp)) ?_
      refine QP.val (.bool false) (by rfl) (fun wC hC => runq_pick (c := true) rfl (by kernel_rfl) (by kernel_rfl)) ?_
      refine QP.nil (hQ.out _ fun w9 hCw9 => ?_)
      simp only [Act.put, List.setIfInBounds_toArray, List.set_cons_succ, List.set_cons_zero]
      clear hops hQ HF4 HS5 hCw8
      have E7 := fun i => cell_of_row _ _ i _ _ _ (HR7 w9 hCw9)
      go_wp2_with fail
      refine (RRight_at _ ⟨f3, x3, es, us, a3, m3⟩ pw dpw pb dpb w9 rfl (HP.out.below hCw9) HER.out.1).mono ?_
      rintro e w10 ⟨rfl, hb10⟩
      clear E7
      have hB10 := hCw9.trans (hb10.mono hCw9.size)
      have E1 := fun i => cell_of_row _ _ i _ _ _ (HRA w10 hB10)
      have E7 := fun i => cell_of_row _ _ i _ _ _ (HR7 w10 hB10)
      have HB8 := Lib.hid (HBX.out.below.trans (hB10.mono HBX.out.below.size))
      clear HR7 HRX HRA HRR HAT HRT hCw9 hB10 hb10
      go_wp2_with fail
      refine (rawake_any _).mono ?_
      rintro e w11 ⟨rfl, hb11⟩
      have HB11 := Lib.hid (HB8.out.trans (hb11.mono HB8.out.size))
      clear E1 E7
      go_wp2_with fail
      go_ret
      exact Says.mk HB11.out
    · have C1 := fun i => cell_of_row _ _ i _ _ _ (HRA w3 hB3)
      go_wp2_with fail
      clear C1
      have HF1 : ∀ W, Below w3.heap.size w3 W → Calls Try.prog 41 #[.agg #[.int .u8 (f1.toNat : Int), .int .u16 (a1.toNat : Int), .int .u16 (m1.toNat : Int), .int .u16 (t1.toNat : Int), .slice aw ws.length cw, .slice ab bs.length cb], .agg #[.int .u8 ((f1 % 128 : UInt8).toNat : Int), .int .u8 (y.toNat : Int), .slice none 0 0, .slice none 0 0, .int .u16 0, .int .u16 0]] W fun e W' => e = .returned (.bool false) ∧ Below w3.heap.size w3 W' := fun W h => (Fits_at _ _ ⟨f1, a1, m1, t1, ws, bs⟩ aw cw ab cb (wrongN f1 y) none 0 none 0 W rfl rfl (HAT W h) ⟨Sl.none_, Sl.none_⟩ hws hbs HFW.out).mono fun _ _ ⟨he, hb⟩ => ⟨he, h.trans (hb.mono h.size)⟩
      have HWR : ∀ W, Below w3.heap.size w3 W → Calls Try.prog 40 #[.int .u8 ((f1 + 1 : UInt8).toNat : Int), .int .u8 1] W fun e W' => e = .returned (.agg #[.int .u8 (((f1 + 1) % 128 : UInt8).toNat : Int), .int .u8 1, .slice none 0 0, .slice none 0 0, .int .u16 0, .int .u16 0]) ∧ Below w3.heap.size w3 W' := fun W h => (Wrong_any (f1 + 1) 1 W).mono fun _ _ ⟨he, hb⟩ => ⟨he, h.trans (hb.mono h.size)⟩
      have HF2 : ∀ W, Below w3.heap.size w3 W → Calls Try.prog 41 #[.agg #[.int .u8 (f1.toNat : Int), .int .u16 (a1.toNat : Int), .int .u16 (m1.toNat : Int), .int .u16 (t1.toNat : Int), .slice aw ws.length cw, .slice ab bs.length cb], .agg #[.int .u8 (((f1 + 1) % 128 : UInt8).toNat : Int), .int .u8 1, .slice none 0 0, .slice none 0 0, .int .u16 0, .int .u16 0]] W fun e W' => e = .returned (.bool false) ∧ Below w3.heap.size w3 W' := fun W h => (Fits_at _ _ ⟨f1, a1, m1, t1, ws, bs⟩ aw cw ab cb (wrongN (f1 + 1) 1) none 0 none 0 W rfl rfl (HAT W h) ⟨Sl.none_, Sl.none_⟩ hws hbs HFO.out).mono fun _ _ ⟨he, hb⟩ => ⟨he, h.trans (hb.mono h.size)⟩
      have HF3 : ∀ W, Below w3.heap.size w3 W → Calls Try.prog 41 #[.agg #[.int .u8 (f1.toNat : Int), .int .u16 (a1.toNat : Int), .int .u16 (m1.toNat : Int), .int .u16 (t1.toNat : Int), .slice aw ws.length cw, .slice ab bs.length cb], .agg #[.int .u8 (f3.toNat : Int), .int .u8 (x3.toNat : Int), .slice pb es.length dpb, .slice pw us.length dpw, .int .u16 (a3.toNat : Int), .int .u16 (m3.toNat : Int)]] W fun e W' => e = .returned (.bool true) ∧ Below w3.heap.size w3 W' := fun W h => (Fits_at _ _ ⟨f1, a1, m1, t1, ws, bs⟩ aw cw ab cb ⟨f3, x3, es, us, a3, m3⟩ pw dpw pb dpb W rfl rfl (HAT W h) (HP.out.below h) hws hbs HFQ.out).mono fun _ _ ⟨he, hb⟩ => ⟨he, h.trans (hb.mono h.size)⟩
      refine region_quiet (fun W => Below w3.heap.size w3 W) (by kernel_rfl) (by kernel_rfl) (hB3).drew ?_
      intro ops Q' hops hQ
      refine QP.val (.bool true) (by rfl) (fun wC hC => runq_move rfl (by kernel_rfl)) ?_
      refine QP.val (.bool true) (by rfl) (fun wC hC => runq_move rfl (by kernel_rfl)) ?_
      refine QP.val (.bool false) (by rfl) (fun wC hC => runq_neqb (p := true) (q := true) Try.underlying4 rfl (by kernel_rfl) (by kernel_rfl) rfl) ?_
      refine QP.val (.bool false) (by rfl) (fun wC hC => runq_move rfl (by kernel_rfl)) ?_
      refine QP.val (.agg #[.int .u8 (f1.toNat : Int), .int .u16 (a1.toNat : Int), .int .u16 (m1.toNat : Int), .int .u16 (t1.toNat : Int), .slice aw ws.length cw, .slice ab bs.length cb]) (wantedq (j := 3) (d := 79) (want := false) (b := false) rfl (by rw [hops.out]; rfl) (by kernel_rfl) rfl) (fun wC hC => runq_load_row (t := 26) (g := w.heap.size) (fr := (0, 0)) rfl (by kernel_rfl) (HRA wC hC) Try.underlying26 rfl (by kernel_rfl)) ?_
      refine QP.val (.agg #[.int .u8 ((f1 % 128 : UInt8).toNat : Int), .int .u8 (y.toNat : Int), .slice none 0 0, .slice none 0 0, .int .u16 0, .int .u16 0]) (wantedq (j := 3) (d := 79) (want := false) (b := false) rfl (by rw [hops.out]; rfl) (by kernel_rfl) rfl) (fun wC hC => runq_load_row (t := 48) (g := w2.heap.size) (fr := (0, 0)) rfl (by kernel_rfl) (HRX wC hC) Try.underlying48 rfl (by kernel_rfl)) ?_
      refine QP.call 41 #[.agg #[.int .u8 (f1.toNat : Int), .int .u16 (a1.toNat : Int), .int .u16 (m1.toNat : Int), .int .u16 (t1.toNat : Int), .slice aw ws.length cw, .slice ab bs.length cb], .agg #[.int .u8 ((f1 % 128 : UInt8).toNat : Int), .int .u8 (y.toNat : Int), .slice none 0 0, .slice none 0 0, .int .u16 0, .int .u16 0]] (.bool false) (wantedq (j := 3) (d := 79) (want := false) (b := false) rfl (by rw [hops.out]; rfl) (by kernel_rfl) rfl) (fun wC hC => (congrArg (fun s => Sem.run Try.prog s wC) (by kernel_rfl)).trans (enters_fits #[.agg #[.int .u8 (f1.toNat : Int), .int .u16 (a1.toNat : Int), .int .u16 (m1.toNat : Int), .int .u16 (t1.toNat : Int), .slice aw ws.length cw, .slice ab bs.length cb], .agg #[.int .u8 ((f1 % 128 : UInt8).toNat : Int), .int .u8 (y.toNat : Int), .slice none 0 0, .slice none 0 0, .int .u16 0, .int .u16 0]] wC)) (fun wC hC => HF1 wC hC) ?_
      refine QP.val (.int .u8 (y.toNat : Int)) (wantedq (j := 3) (d := 79) (want := false) (b := false) rfl (by rw [hops.out]; rfl) (by kernel_rfl) rfl) (fun wC hC => runq_move rfl (by kernel_rfl)) ?_
      refine QP.val (.bool false) (wantedq (j := 3) (d := 79) (want := false) (b := false) rfl (by rw [hops.out]; rfl) (by kernel_rfl) rfl) (fun wC hC => runq_geq (k := .u8) (p := (y.toNat : Int)) (q := 1) rfl (by kernel_rfl) (by kernel_rfl) (by simp; omega)) ?_
      refine QP.val (.bool false) (wantedq (j := 3) (d := 79) (want := false) (b := false) rfl (by rw [hops.out]; rfl) (by kernel_rfl) rfl) (fun wC hC => runq_move rfl (by kernel_rfl)) ?_
      refine QP.skip (wantedq (j := 9) (d := 85) (want := true) (b := false) rfl (by rw [hops.out]; rfl) (by kernel_rfl) rfl) ?_
      refine QP.skip (wantedq (j := 9) (d := 85) (want := true) (b := false) rfl (by rw [hops.out]; rfl) (by kernel_rfl) rfl) ?_
      refine QP.val (.bool false) (wantedq (j := 3) (d := 79) (want := false) (b := false) rfl (by rw [hops.out]; rfl) (by kernel_rfl) rfl) (fun wC hC => runq_pick (c := false) rfl (by kernel_rfl) (by kernel_rfl)) ?_
      refine QP.val (.bool false) (wantedq (j := 3) (d := 79) (want := false) (b := false) rfl (by rw [hops.out]; rfl) (by kernel_rfl) rfl) (fun wC hC => runq_neqb (p := false) (q := false) Try.underlying4 rfl (by kernel_rfl) (by kernel_rfl) rfl) ?_
      refine QP.val (.bool false) (by rfl) (fun wC hC => runq_pick (c := false) rfl (by kernel_rfl) (by kernel_rfl)) ?_
      refine QP.val (.bool false) (by rfl) (fun wC hC => runq_move rfl (by kernel_rfl)) ?_
      refine QP.val (.agg #[.int .u8 (f1.toNat : Int), .int .u16 (a1.toNat : Int), .int .u16 (m1.toNat : Int), .int .u16 (t1.toNat : Int), .slice aw ws.length cw, .slice ab bs.length cb]) (wantedq (j := 15) (d := 91) (want := false) (b := false) rfl (by rw [hops.out]; rfl) (by kernel_rfl) rfl) (fun wC hC => runq_load_row (t := 26) (g := w.heap.size) (fr := (0, 0)) rfl (by kernel_rfl) (HRA wC hC) Try.underlying26 rfl (by kernel_rfl)) ?_
      refine QP.val (.pointer (some ⟨w.heap.size, 0, none⟩)) (wantedq (j := 15) (d := 91) (want := false) (b := false) rfl (by rw [hops.out]; rfl) (by kernel_rfl) rfl) (fun wC hC => by kernel_rfl) ?_
      refine QP.val (.int .u8 (f1.toNat : Int)) (wantedq (j := 15) (d := 91) (want := false) (b := false) rfl (by rw [hops.out]; rfl) (by kernel_rfl) rfl) (fun wC hC => runq_load_int (p := ⟨w.heap.size, 0, none⟩) rfl (by kernel_rfl) (cell_of_row _ _ 0 _ _ _ (HRA wC hC)) Try.underlying5) ?_
      refine QP.val (.int .u8 ((f1 + 1 : UInt8).toNat : Int)) (wantedq (j := 15) (d := 91) (want := false) (b := false) rfl (by rw [hops.out]; rfl) (by kernel_rfl) rfl) (fun wC hC => runq_add (k := .u8) (p := (f1.toNat : Int)) (q := 1) rfl (by kernel_rfl) (by kernel_rfl) (add_one8 f1)) ?_
      refine QP.call 40 #[.int .u8 ((f1 + 1 : UInt8).toNat : Int), .int .u8 1] (.agg #[.int .u8 (((f1 + 1) % 128 : UInt8).toNat : Int), .int .u8 1, .slice none 0 0, .slice none 0 0, .int .u16 0, .int .u16 0]) (wantedq (j := 15) (d := 91) (want := false) (b := false) rfl (by rw [hops.out]; rfl) (by kernel_rfl) rfl) (fun wC hC => (congrArg (fun s => Sem.run Try.prog s wC) (by kernel_rfl)).trans (enters_wrong #[.int .u8 ((f1 + 1 : UInt8).toNat : Int), .int .u8 1] wC)) (fun wC hC => HWR wC hC) ?_
      refine QP.call 41 #[.agg #[.int .u8 (f1.toNat : Int), .int .u16 (a1.toNat : Int), .int .u16 (m1.toNat : Int), .int .u16 (t1.toNat : Int), .slice aw ws.length cw, .slice ab bs.length cb], .agg #[.int .u8 (((f1 + 1) % 128 : UInt8).toNat : Int), .int .u8 1, .slice none 0 0, .slice none 0 0, .int .u16 0, .int .u16 0]] (.bool false) (wantedq (j := 15) (d := 91) (want := false) (b := false) rfl (by rw [hops.out]; rfl) (by kernel_rfl) rfl) (fun wC hC => (congrArg (fun s => Sem.run Try.prog s wC) (by kernel_rfl)).trans (enters_fits #[.agg #[.int .u8 (f1.toNat : Int), .int .u16 (a1.toNat : Int), .int .u16 (m1.toNat : Int), .int .u16 (t1.toNat : Int), .slice aw ws.length cw, .slice ab bs.length cb], .agg #[.int .u8 (((f1 + 1) % 128 : UInt8).toNat : Int), .int .u8 1, .slice none 0 0, .slice none 0 0, .int .u16 0, .int .u16 0]] wC)) (fun wC hC => HF2 wC hC) ?_
      refine QP.val (.bool false) (by rfl) (fun wC hC => runq_pick (c := false) rfl (by kernel_rfl) (by kernel_rfl)) ?_
      refine QP.val (.bool false) (by rfl) (fun wC hC => runq_move rfl (by kernel_rfl)) ?_
      refine QP.val (.bool true) (wantedq (j := 23) (d := 99) (want := false) (b := false) rfl (by rw [hops.out]; rfl) (by kernel_rfl) rfl) (fun wC hC => runq_move rfl (by kernel_rfl)) ?_
      refine QP.val (.bool true) (wantedq (j := 23) (d := 99) (want := false) (b := false) rfl (by rw [hops.out]; rfl) (by kernel_rfl) rfl) (fun wC hC => runq_move rfl (by kernel_rfl)) ?_
      refine QP.val (.agg #[.int .u8 (f1.toNat : Int), .int .u16 (a1.toNat : Int), .int .u16 (m1.toNat : Int), .int .u16 (t1.toNat : Int), .slice aw ws.length cw, .slice ab bs.length cb]) (wantedq (j := 25) (d := 101) (want := true) (b := true) rfl (by rw [hops.out]; rfl) (by kernel_rfl) rfl) (fun wC hC => runq_load_row (t := 26) (g := w.heap.size) (fr := (0, 0)) rfl (by kernel_rfl) (HRA wC hC) Try.underlying26 rfl (by kernel_rfl)) ?_
      refine QP.val (.agg #[.int .u8 (f3.toNat : Int), .int .u8 (x3.toNat : Int), .slice pb es.length dpb, .slice pw us.length dpw, .int .u16 (a3.toNat : Int), .int .u16 (m3.toNat : Int)]) (wantedq (j := 25) (d := 101) (want := true) (b := true) rfl (by rw [hops.out]; rfl) (by kernel_rfl) rfl) (fun wC hC => runq_load_row (t := 48) (g := w1.heap.size) (fr := (0, 0)) rfl (by kernel_rfl) (HR7 wC hC) Try.underlying48 rfl (by kernel_rfl)) ?_
      refine QP.call 41 #[.agg #[.int .u8 (f1.toNat : Int), .int .u16 (a1.toNat : Int), .int .u16 (m1.toNat : Int), .int .u16 (t1.toNat : Int), .slice aw ws.length cw, .slice ab bs.length cb], .agg #[.int .u8 (f3.toNat : Int), .int .u8 (x3.toNat : Int), .slice pb es.length dpb, .slice pw us.length dpw, .int .u16 (a3.toNat : Int), .int .u16 (m3.toNat : Int)]] (.bool true) (wantedq (j := 25) (d := 101) (want := true) (b := true) rfl (by rw [hops.out]; rfl) (by kernel_rfl) rfl) (fun wC hC => (congrArg (fun s => Sem.run Try.prog s wC) (by kernel_rfl)).trans (enters_fits #[.agg #[.int .u8 (f1.toNat : Int), .int .u16 (a1.toNat : Int), .int .u16 (m1.toNat : Int), .int .u16 (t1.toNat : Int), .slice aw ws.length cw, .slice ab bs.length cb], .agg #[.int .u8 (f3.toNat : Int), .int .u8 (x3.toNat : Int), .slice pb es.length dpb, .slice pw us.length dpw, .int .u16 (a3.toNat : Int), .int .u16 (m3.toNat : Int)]] wC)) (fun wC hC => HF3 wC hC) ?_
      refine QP.val (.bool false) (wantedq (j := 25) (d := 101) (want := true) (b := true) rfl (by rw [hops.out]; rfl) (by kernel_rfl) rfl) (fun wC hC => runq_not (c := true) rfl (by kernel_rfl) rfl) ?_
      refine QP.val (.bool false) (wantedq (j := 23) (d := 99) (want := false) (b := false) rfl (by rw [hops.out]; rfl) (by kernel_rfl) rfl) (fun wC hC => runq_pick (c := true) rfl (by kernel_rfl) (by kernel_rfl)) ?_
      refine QP.val (.bool false) (by rfl) (fun wC hC => runq_pick (c := false) rfl (by kernel_rfl) (by kernel_rfl)) ?_
      refine QP.nil (hQ.out _ fun w8 hCw8 => ?_)
      simp only [Act.put, List.setIfInBounds_toArray, List.set_cons_succ, List.set_cons_zero]
      clear hops hQ HF1 HWR HF2 HF3
      go_wp2_with fail
      refine region_quiet (fun W => Below w3.heap.size w3 W) (by kernel_rfl) (by kernel_rfl) (hCw8).drew ?_
      intro ops Q' hops hQ
      refine QP.val (.bool true) (by rfl) (fun wC hC => runq_move rfl (by kernel_rfl)) ?_
      refine QP.val (.bool true) (by rfl) (fun wC hC => runq_move rfl (by kernel_rfl)) ?_
      refine QP.val (.pointer (some ⟨w.heap.size + 1, 1, none⟩)) (wantedq (j := 1) (d := 109) (want := true) (b := true) rfl (by rw [hops.out]; rfl) (by kernel_rfl) rfl) (fun wC hC => by kernel_rfl) ?_
      refine QP.val (.int .u8 (x2.toNat : Int)) (wantedq (j := 1) (d := 109) (want := true) (b := true) rfl (by rw [hops.out]; rfl) (by kernel_rfl) rfl) (fun wC hC => runq_load_int (p := ⟨w.heap.size + 1, 1, none⟩) rfl (by kernel_rfl) (cell_of_row _ _ 1 _ _ _ (HRR wC hC)) Try.underlying5) ?_
      refine QP.val (.bool false) (wantedq (j := 1) (d := 109) (want := true) (b := true) rfl (by rw [hops.out]; rfl) (by kernel_rfl) rfl) (fun wC hC => runq_eql (k := .u8) (p := (x2.toNat : Int)) (q := 0) rfl (by kernel_rfl) (by kernel_rfl) (by simp; omega)) ?_
      refine QP.val (.bool false) (by rfl) (fun wC hC => runq_pick (c := true) rfl (by kernel_rfl) (by kernel_rfl)) ?_
      refine QP.val (.bool false) (by rfl) (fun wC hC => runq_move rfl (by kernel_rfl)) ?_
      refine QP.skip (wantedq (j := 6) (d := 114) (want := true) (b := false) rfl (by rw [hops.out]; rfl) (by kernel_rfl) rfl) ?_
      refine QP.skip (wantedq (j := 6) (d := 114) (want := true) (b := false) rfl (by rw [hops.out]; rfl) (by kernel_rfl) rfl) ?_
      refine QP.skip (wantedq (j := 6) (d := 114) (want := true) (b := false) rfl (by rw [hops.out]; rfl) (by kernel_rfl) rfl) ?_
      refine QP.skip (wantedq (j := 6) (d := 114) (want := true) (b := false) rfl (by rw [hops.out]; rfl) (by kernel_rfl) rfl) ?_
      refine QP.skip (wantedq (j := 6) (d := 114) (want := true) (b := false) rfl (by rw [hops.out]; rfl) (by kernel_rfl) rfl) ?_
      refine QP.skip (wantedq (j := 6) (d := 114) (want := true) (b := false) rfl (by rw [hops.out]; rfl) (by kernel_rfl) rfl) ?_
      refine QP.skip (wantedq (j := 6) (d := 114) (want := true) (b := false) rfl (by rw [hops.out]; rfl) (by kernel_rfl) rfl) ?_
      refine QP.val (.bool false) (by rfl) (fun wC hC => runq_pick (c := false) rfl (by kernel_rfl) (by kernel_rfl)) ?_
      refine QP.nil (hQ.out _ fun w9 hCw9 => ?_)
      simp only [Act.put, List.setIfInBounds_toArray, List.set_cons_succ, List.set_cons_zero]
      clear hops hQ hCw8
      have E7 := fun i => cell_of_row _ _ i _ _ _ (HR7 w9 hCw9)
      go_wp2_with fail
      refine (RRight_at _ ⟨f3, x3, es, us, a3, m3⟩ pw dpw pb dpb w9 rfl (HP.out.below hCw9) HER.out.1).mono ?_
      rintro e w10 ⟨rfl, hb10⟩
      clear E7
      have hB10 := hCw9.trans (hb10.mono hCw9.size)
      have E1 := fun i => cell_of_row _ _ i _ _ _ (HRA w10 hB10)
      have E7 := fun i => cell_of_row _ _ i _ _ _ (HR7 w10 hB10)
      have HB8 := Lib.hid (HBX.out.below.trans (hB10.mono HBX.out.below.size))
      clear HR7 HRX HRA HRR HAT HRT hCw9 hB10 hb10
      go_wp2_with fail
      refine (rawake_any _).mono ?_
      rintro e w11 ⟨rfl, hb11⟩
      have HB11 := Lib.hid (HB8.out.trans (hb11.mono HB8.out.size))
      clear E1 E7
      go_wp2_with fail
      go_ret
      exact Says.mk HB11.out
end Go.Proofs.Ytiecncnmmecjcaa.ReplyW
