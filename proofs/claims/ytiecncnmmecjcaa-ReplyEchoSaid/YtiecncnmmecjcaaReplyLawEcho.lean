/- The law ReplyEcho, walked. -/
import Derived.Test.YtiecncnmmecjcaaReplyEchoF
import Derived.Test.YtiecncnmmecjcaaReplyAwake
import Derived.Test.YtiecncnmmecjcaaQuiet
open Go.RowKit
namespace Go.Proofs.Ytiecncnmmecjcaa.ReplyW
open AskM ReplyM AskW Mem

theorem mod6 (x : UInt8) : ((x.toNat : Int) % 6) = ((x % 6 : UInt8).toNat : Int) := by rw [UInt8.toNat_mod]; rfl
theorem add_one8 (f : UInt8) : IntKind.u8.wrap ((f.toNat : Int) + 1) = ((f + 1 : UInt8).toNat : Int) := by
  rw [UInt8.toNat_add]
  show ((f.toNat : Int) + 1) % 256 = (((f.toNat + 1) % 256 : Nat) : Int)
  omega
theorem runq_add {P : Program} {o : Oper} {w : World} {ev : Operand → Value} {x y : Operand} {T S : TypeId} {k : IntKind} {p q r : Int} (ho : o.op = Op.binOp .add T x y S) (hx : ev x = .int k p) (hy : ev y = .int k q) (hr : k.wrap (p + q) = r) :
    (execOp ev o).run P w = .ok (.value (.int k r)) w := by
  subst hr
  simp [execOp, ho, hx, hy, go_sem]
theorem enters_fits (args : Array Value) (w : World) : (callFunc 41 args).run Try.prog w = .ok (.enter 41 args) w := by
  have h := Try.func41
  unfold callFunc
  rw [Sem.run_bind]
  simp only [run_program, Result.andThen_ok, h]
  have e1 : (Try.f41.name == "runtime.NumGoroutine") = false := by kernel_rfl
  have e2 : Try.f41.body.isNone = false := by kernel_rfl
  rw [e1, e2]
  rfl
theorem Fits_at (v1 v2 : Value) (a : Req) (aw : Option Addr) (cw : Nat) (ab : Option Addr) (cb : Nat) (r : Rep) (rw_ : Option Addr) (dw : Nat) (rb : Option Addr) (db : Nat) (w : World) (h1 : v1 = askV a aw cw ab cb) (h2 : v2 = repV r rw_ dw rb db) (hA : AskAt w w.heap.size a aw cw ab cb) (hR : RepAt w w.heap.size r rw_ dw rb db)
    (hnw : a.words.length ≤ 1000000) (hnb : a.bits.length ≤ 1000000) {z : Bool} (hz : fitsN a r = z) :
    Calls Try.prog 41 #[v1, v2] w (Says (.bool z) w) := by
  subst h1 h2 hz
  exact Fits_any a aw cw ab cb r rw_ dw rb db w hA hR hnw hnb
theorem fits_not {a : Req} (h : rightN a = false) (r : Rep) : fitsN a r = false := by
  unfold fitsN fitsBits fitsWords fitsEcho
  rw [h]
  simp
theorem FitsNot_at (v1 v2 : Value) (a : Req) (aw : Option Addr) (cw : Nat) (ab : Option Addr) (cb : Nat) (r : Rep) (rw_ : Option Addr) (dw : Nat) (rb : Option Addr) (db : Nat) (w : World) (h1 : v1 = askV a aw cw ab cb) (h2 : v2 = repV r rw_ dw rb db)
    (hnw : a.words.length ≤ 1000000) (hnb : a.bits.length ≤ 1000000) (hf : rightN a = false) :
    Calls Try.prog 41 #[v1, v2] w (Says (.bool false) w) := by
  subst h1 h2
  exact FitsNot_any a aw cw ab cb r rw_ dw rb db w hnw hnb hf
theorem RRight_at (v : Value) (r : Rep) (aw : Option Addr) (cw : Nat) (ab : Option Addr) (cb : Nat) (w : World) (h1 : v = repV r aw cw ab cb) (hR : RepAt w w.heap.size r aw cw ab cb) {z : Bool} (hz : rrightN r = z) :
    Calls Try.prog 34 #[v] w (Says (.bool z) w) := by
  subst h1 hz
  exact RRight_any r aw cw ab cb w hR


set_option maxRecDepth 100000 in
set_option maxHeartbeats 40000000 in
theorem ReplyEcho_not (a : Req) (aw : Option Addr) (cw : Nat) (ab : Option Addr) (cb : Nat) (r : Rep) (ow : Option Addr) (dw : Nat) (ob : Option Addr) (db : Nat) (x : UInt8) (w : World) (hA : AskAt w w.heap.size a aw cw ab cb) (hR : RepAt w w.heap.size r ow dw ob db) (h1 : a.words.length ≤ 200 ∧ a.bits.length ≤ 2100) (h2 : r.words.length ≤ 200 ∧ r.bits.length ≤ 2100) (hrf : rightN a = false) :
    Calls Try.prog 6 #[askV a aw cw ab cb, repV r ow dw ob db, b8 x] w (Says (.bool true) w) := by
  have l1 := len_le hA.words
  have l2 := len_le hA.bits
  have l3 := len_le hR.words
  have l4 := len_le hR.bits
  have HA := Lib.hid hA
  have HR := Lib.hid hR
  clear hA hR
  obtain ⟨f1, a1, m1, t1, ws, bs⟩ := a
  obtain ⟨f2, x2, ds, vs, a2, m2⟩ := r
  have hf8 := f1.toNat_lt
  have hx8 := x.toNat_lt
  simp only at l1 l2 l3 l4 h1 h2
  have hx1 := Lib.hid (few_true h1.1 h1.2)
  have hx2 := Lib.hid (few_true h2.1 h2.2)
  have hws : ws.length ≤ 1000000 := by omega
  have hbs : bs.length ≤ 1000000 := by omega
  have HBX0 : Hid (Boxed w #[.int .u8 (f1.toNat : Int), .int .u16 (a1.toNat : Int), .int .u16 (m1.toNat : Int), .int .u16 (t1.toNat : Int), .slice aw ws.length cw, .slice ab bs.length cb] #[.int .u8 (f2.toNat : Int), .int .u8 (x2.toNat : Int), .slice ob ds.length db, .slice ow vs.length dw, .int .u16 (a2.toNat : Int), .int .u16 (m2.toNat : Int)] 26 48 ((w.alloc (.cells #[.int .u8 (f1.toNat : Int), .int .u16 (a1.toNat : Int), .int .u16 (m1.toNat : Int), .int .u16 (t1.toNat : Int), .slice aw ws.length cw, .slice ab bs.length cb] 26)).alloc (.cells #[.int .u8 (f2.toNat : Int), .int .u8 (x2.toNat : Int), .slice ob ds.length db, .slice ow vs.length dw, .int .u16 (a2.toNat : Int), .int .u16 (m2.toNat : Int)] 48))) := Lib.hid (Below.refl _ _)
  have hEC := fun (W : World) (h : Below w.heap.size w W) => Echo_any ⟨f1, a1, m1, t1, ws, bs⟩ aw cw ab cb W (HA.out.below h) hws hbs
  clear h1 h2
  have HRF := Lib.hid hrf
  have HEC : Hid (echoN ⟨f1, a1, m1, t1, ws, bs⟩ = none) := Lib.hid (by unfold echoN; rw [if_pos hrf])
  clear hrf
  go_enter Try.func6, Try.ntmps6
  go_wp2_with fail
  refine (Few_any _ _ _ _ _ _ _ l1 l2).mono ?_
  rintro e w1 ⟨rfl, rfl⟩
  rw [hx1.out]
  go_wp2_with fail
  refine (Few_any _ _ _ _ _ _ _ l3 l4).mono ?_
  rintro e w1 ⟨rfl, rfl⟩
  rw [hx2.out]
  have C1 := HBX0.out.one
  have C2 := HBX0.out.two
  generalize (w.alloc (.cells #[.int .u8 (f1.toNat : Int), .int .u16 (a1.toNat : Int), .int .u16 (m1.toNat : Int), .int .u16 (t1.toNat : Int), .slice aw ws.length cw, .slice ab bs.length cb] 26)).alloc (.cells #[.int .u8 (f2.toNat : Int), .int .u8 (x2.toNat : Int), .slice ob ds.length db, .slice ow vs.length dw, .int .u16 (a2.toNat : Int), .int .u16 (m2.toNat : Int)] 48) = W0 at *
  go_wp2_with fail
  have hEC1 := hEC W0 HBX0.out.below
  rw [HEC.out] at hEC1
  have HEC1 := Lib.hid hEC1
  clear hEC1 hEC
  refine HEC1.out.mono ?_
  rintro e w1 ⟨pw, dpw, pb, dpb, rfl, hP, hb1, -⟩
  have HBX1 : Hid (Boxed w #[.int .u8 (f1.toNat : Int), .int .u16 (a1.toNat : Int), .int .u16 (m1.toNat : Int), .int .u16 (t1.toNat : Int), .slice aw ws.length cw, .slice ab bs.length cb] #[.int .u8 (f2.toNat : Int), .int .u8 (x2.toNat : Int), .slice ob ds.length db, .slice ow vs.length dw, .int .u16 (a2.toNat : Int), .int .u16 (m2.toNat : Int)] 26 48 w1) := Lib.hid (HBX0.out.on (hb1.mono HBX0.out.size))
  have HP1 := Lib.hid hP
  clear hb1 hP HEC1 C1 C2 HBX0
  simp only [Option.getD_none, Option.isSome_none, zeroR]
  have D1 := fun (X : Obj) (o : Nat) => (World.cell?_alloc_lt w1 X ⟨w.heap.size, o, none⟩ (by have := HBX1.out.size; show w.heap.size < _; omega)).trans (HBX1.out.one o)
  go_wp2_with fail
  rw [mod6 x]
  generalize x % 6 = y at *
  clear D1
  have HR7 := Lib.hid (heap_alloc_new w1 (.cells #[.int .u8 0, .int .u8 0, .slice pb 0 dpb, .slice pw 0 dpw, .int .u16 0, .int .u16 0] 48))
  have HBA := Lib.hid ((Below.refl w1.heap.size w1).alloc (Nat.le_refl _) (.cells #[.int .u8 0, .int .u8 0, .slice pb 0 dpb, .slice pw 0 dpw, .int .u16 0, .int .u16 0] 48))
  have HZ1 : Hid ((w1.alloc (.cells #[.int .u8 0, .int .u8 0, .slice pb 0 dpb, .slice pw 0 dpw, .int .u16 0, .int .u16 0] 48)).heap.size = w1.heap.size + 1) := Lib.hid (by simp)
  generalize w1.alloc (.cells #[.int .u8 0, .int .u8 0, .slice pb 0 dpb, .slice pw 0 dpw, .int .u16 0, .int .u16 0] 48) = W1 at *
  refine (Wrong_at f1 y W1).mono ?_
  rintro e w2 ⟨rfl, hb2⟩
  have HBX2 : Hid (Boxed w #[.int .u8 (f1.toNat : Int), .int .u16 (a1.toNat : Int), .int .u16 (m1.toNat : Int), .int .u16 (t1.toNat : Int), .slice aw ws.length cw, .slice ab bs.length cb] #[.int .u8 (f2.toNat : Int), .int .u8 (x2.toNat : Int), .slice ob ds.length db, .slice ow vs.length dw, .int .u16 (a2.toNat : Int), .int .u16 (m2.toNat : Int)] 26 48 w2) := Lib.hid ((HBX1.out.on (HBA.out.mono HBX1.out.size)).on (hb2.mono (by have := HBX1.out.size; have := HZ1.out; omega)))
  have HR72 := Lib.hid ((hb2.block w1.heap.size (by have := HZ1.out; omega)).trans HR7.out)
  have HP2 := Lib.hid ((HP1.out.up HBA.out (Nat.le_refl _)).up hb2 (Nat.le_refl _))
  have HL7 : Hid (w1.heap.size < w2.heap.size) := Lib.hid (by have := hb2.size; have := HZ1.out; omega)
  have HG7 : Hid (w.heap.size + 2 ≤ w1.heap.size) := Lib.hid HBX1.out.size
  clear hb2 HR7 HBA HZ1 HP1 HBX1
  have D1 := fun (X : Obj) (o : Nat) => (World.cell?_alloc_lt w2 X ⟨w.heap.size, o, none⟩ (by have := HBX2.out.size; show w.heap.size < _; omega)).trans (HBX2.out.one o)
  go_wp2_with fail
  clear D1
  have HR10 := Lib.hid (heap_alloc_new w2 (.cells #[.int .u8 ((f1 % 128 : UInt8).toNat : Int), .int .u8 (y.toNat : Int), .slice none 0 0, .slice none 0 0, .int .u16 0, .int .u16 0] 48))
  have HBA := Lib.hid ((Below.refl w2.heap.size w2).alloc (Nat.le_refl _) (.cells #[.int .u8 ((f1 % 128 : UInt8).toNat : Int), .int .u8 (y.toNat : Int), .slice none 0 0, .slice none 0 0, .int .u16 0, .int .u16 0] 48))
  have HZ2 : Hid ((w2.alloc (.cells #[.int .u8 ((f1 % 128 : UInt8).toNat : Int), .int .u8 (y.toNat : Int), .slice none 0 0, .slice none 0 0, .int .u16 0, .int .u16 0] 48)).heap.size = w2.heap.size + 1) := Lib.hid (by simp)
  change Calls _ _ _ (w2.alloc (.cells #[.int .u8 ((f1 % 128 : UInt8).toNat : Int), .int .u8 (y.toNat : Int), .slice none 0 0, .slice none 0 0, .int .u16 0, .int .u16 0] 48)) _
  generalize w2.alloc (.cells #[.int .u8 ((f1 % 128 : UInt8).toNat : Int), .int .u8 (y.toNat : Int), .slice none 0 0, .slice none 0 0, .int .u16 0, .int .u16 0] 48) = W2 at *
  refine (Right_any ⟨f1, a1, m1, t1, ws, bs⟩ aw cw ab cb W2 hws hbs).mono ?_
  rw [HRF.out]
  rintro e w3 ⟨rfl, hb3⟩
  have HBX : Hid (Boxed w #[.int .u8 (f1.toNat : Int), .int .u16 (a1.toNat : Int), .int .u16 (m1.toNat : Int), .int .u16 (t1.toNat : Int), .slice aw ws.length cw, .slice ab bs.length cb] #[.int .u8 (f2.toNat : Int), .int .u8 (x2.toNat : Int), .slice ob ds.length db, .slice ow vs.length dw, .int .u16 (a2.toNat : Int), .int .u16 (m2.toNat : Int)] 26 48 w3) := Lib.hid ((HBX2.out.on (HBA.out.mono HBX2.out.size)).on (hb3.mono (by have := HBX2.out.size; have := HZ2.out; omega)))
  have HG10 : Hid (w2.heap.size < w3.heap.size) := Lib.hid (by have := hb3.size; have := HZ2.out; omega)
  have HR7 : ∀ W, Below w3.heap.size w3 W → W.heap[w1.heap.size]? = some (.cells #[.int .u8 0, .int .u8 0, .slice pb 0 dpb, .slice pw 0 dpw, .int .u16 0, .int .u16 0] 48 (0, 0)) := fun W h => (h.block w1.heap.size (by have := HL7.out; have := HG10.out; omega)).trans ((hb3.block w1.heap.size (by have := HL7.out; have := HZ2.out; omega)).trans ((HBA.out.block w1.heap.size HL7.out).trans HR72.out))
  have HRX : ∀ W, Below w3.heap.size w3 W → W.heap[w2.heap.size]? = some (.cells #[.int .u8 ((f1 % 128 : UInt8).toNat : Int), .int .u8 (y.toNat : Int), .slice none 0 0, .slice none 0 0, .int .u16 0, .int .u16 0] 48 (0, 0)) := fun W h => (h.block w2.heap.size HG10.out).trans ((hb3.block w2.heap.size (by have := HZ2.out; omega)).trans HR10.out)
  have HP := Lib.hid ((HP2.out.up HBA.out (Nat.le_refl _)).up hb3 (Nat.le_refl _))
  have HRA : ∀ W, Below w3.heap.size w3 W → W.heap[w.heap.size]? = some (.cells #[.int .u8 (f1.toNat : Int), .int .u16 (a1.toNat : Int), .int .u16 (m1.toNat : Int), .int .u16 (t1.toNat : Int), .slice aw ws.length cw, .slice ab bs.length cb] 26 (0, 0)) := fun W h => (h.block w.heap.size (by have := HBX.out.size; omega)).trans (Boxed.h1 HBX.out)
  have HRR : ∀ W, Below w3.heap.size w3 W → W.heap[w.heap.size + 1]? = some (.cells #[.int .u8 (f2.toNat : Int), .int .u8 (x2.toNat : Int), .slice ob ds.length db, .slice ow vs.length dw, .int .u16 (a2.toNat : Int), .int .u16 (m2.toNat : Int)] 48 (0, 0)) := fun W h => (h.block (w.heap.size + 1) (by have := HBX.out.size; omega)).trans (Boxed.h2 HBX.out)
  have HAT : ∀ W, Below w3.heap.size w3 W → AskAt W W.heap.size ⟨f1, a1, m1, t1, ws, bs⟩ aw cw ab cb := fun W h => (HA.out.below HBX.out.below).below h
  have HRT : ∀ W, Below w3.heap.size w3 W → RepAt W W.heap.size ⟨f2, x2, ds, vs, a2, m2⟩ ow dw ob db := fun W h => (HR.out.below HBX.out.below).below h
  have hB3 := Below.refl w3.heap.size w3
  clear hb3 HR10 HBA HZ2 HP2 HR72 HBX2
  have C1 := fun i => cell_of_row _ _ i _ _ _ (HRA w3 hB3)
  have C2 := fun i => cell_of_row _ _ i _ _ _ (HRR w3 hB3)
  go_wp2_with fail
  refine (FitsNot_at _ _ ⟨f1, a1, m1, t1, ws, bs⟩ aw cw ab cb ⟨f2, x2, ds, vs, a2, m2⟩ ow dw ob db w3 rfl rfl hws hbs HRF.out).mono ?_
  rintro e w4 ⟨rfl, hb4⟩
  clear C1 C2
  have C1 := fun i => cell_of_row _ _ i _ _ _ (HRA w4 hb4)
  have C2 := fun i => cell_of_row _ _ i _ _ _ (HRX w4 hb4)
  go_wp2_with fail
  refine (FitsNot_at _ _ ⟨f1, a1, m1, t1, ws, bs⟩ aw cw ab cb (wrongN f1 y) none 0 none 0 w4 rfl rfl hws hbs HRF.out).mono ?_
  rintro e w5 ⟨rfl, hb5⟩
  clear C1 C2
  have HB5 := Lib.hid (HBX.out.below.trans ((hb4.trans (hb5.mono hb4.size)).mono HBX.out.below.size))
  clear HR7 HRX HRA HRR HAT HRT
  go_wp2_with fail
  refine (rawake_any _).mono ?_
  rintro e w6 ⟨rfl, hb6⟩
  have HB6 := Lib.hid (HB5.out.trans (hb6.mono HB5.out.size))
  go_wp2_with fail
  go_ret
  exact Says.mk HB6.out
set_option maxRecDepth 100000 in
set_option maxHeartbeats 40000000 in
theorem ReplyEcho_none (a : Req) (aw : Option Addr) (cw : Nat) (ab : Option Addr) (cb : Nat) (r : Rep) (ow : Option Addr) (dw : Nat) (ob : Option Addr) (db : Nat) (x : UInt8) (w : World) (hA : AskAt w w.heap.size a aw cw ab cb) (hR : RepAt w w.heap.size r ow dw ob db) (h1 : a.words.length ≤ 200 ∧ a.bits.length ≤ 2100) (h2 : r.words.length ≤ 200 ∧ r.bits.length ≤ 2100) (hrf : rightN a = true) (hec : echoN a = none) :
    Calls Try.prog 6 #[askV a aw cw ab cb, repV r ow dw ob db, b8 x] w (Says (.bool true) w) := by
  have l1 := len_le hA.words
  have l2 := len_le hA.bits
  have l3 := len_le hR.words
  have l4 := len_le hR.bits
  have HA := Lib.hid hA
  have HR := Lib.hid hR
  clear hA hR
  obtain ⟨f1, a1, m1, t1, ws, bs⟩ := a
  obtain ⟨f2, x2, ds, vs, a2, m2⟩ := r
  have hf8 := f1.toNat_lt
  have hx8 := x.toNat_lt
  simp only at l1 l2 l3 l4 h1 h2
  have hx1 := Lib.hid (few_true h1.1 h1.2)
  have hx2 := Lib.hid (few_true h2.1 h2.2)
  have hws : ws.length ≤ 1000000 := by omega
  have hbs : bs.length ≤ 1000000 := by omega
  have HBX0 : Hid (Boxed w #[.int .u8 (f1.toNat : Int), .int .u16 (a1.toNat : Int), .int .u16 (m1.toNat : Int), .int .u16 (t1.toNat : Int), .slice aw ws.length cw, .slice ab bs.length cb] #[.int .u8 (f2.toNat : Int), .int .u8 (x2.toNat : Int), .slice ob ds.length db, .slice ow vs.length dw, .int .u16 (a2.toNat : Int), .int .u16 (m2.toNat : Int)] 26 48 ((w.alloc (.cells #[.int .u8 (f1.toNat : Int), .int .u16 (a1.toNat : Int), .int .u16 (m1.toNat : Int), .int .u16 (t1.toNat : Int), .slice aw ws.length cw, .slice ab bs.length cb] 26)).alloc (.cells #[.int .u8 (f2.toNat : Int), .int .u8 (x2.toNat : Int), .slice ob ds.length db, .slice ow vs.length dw, .int .u16 (a2.toNat : Int), .int .u16 (m2.toNat : Int)] 48))) := Lib.hid (Below.refl _ _)
  have hEC := fun (W : World) (h : Below w.heap.size w W) => Echo_any ⟨f1, a1, m1, t1, ws, bs⟩ aw cw ab cb W (HA.out.below h) hws hbs
  clear h1 h2
  have HRF := Lib.hid hrf
  have hFO := fits_other hrf
  have hFW := fun y => fits_wrong hrf y
  simp only at hFO hFW
  have HFO := Lib.hid hFO
  have HFWA := Lib.hid hFW
  have hEW := echo_writes hrf
  have hER := fun q => echo_right hrf (q := q)
  have hEF := fun q (hq : echoN ⟨f1, a1, m1, t1, ws, bs⟩ = some q) r (hx : r.ex.toNat = 0) => fits_echo hrf hq (r := r) hx
  clear hrf hFO hFW
  have hno : ¬ (f1.toNat = 5 ∨ f1.toNat = 6 ∨ f1.toNat = 15 ∨ f1.toNat = 16) := fun h => absurd (hEW.2 h) (by rintro ⟨q, hq⟩; rw [hec] at hq; cases hq)
  have HEC := Lib.hid hec
  have k5 : ((f1.toNat : Int) == 5) = false := by simp; omega
  have k6 : ((f1.toNat : Int) == 6) = false := by simp; omega
  have k15 : ((f1.toNat : Int) == 15) = false := by simp; omega
  have k16 : ((f1.toNat : Int) == 16) = false := by simp; omega
  clear hno hEW hER hEF hec
  go_enter Try.func6, Try.ntmps6
  go_wp2_with fail
  refine (Few_any _ _ _ _ _ _ _ l1 l2).mono ?_
  rintro e w1 ⟨rfl, rfl⟩
  rw [hx1.out]
  go_wp2_with fail
  refine (Few_any _ _ _ _ _ _ _ l3 l4).mono ?_
  rintro e w1 ⟨rfl, rfl⟩
  rw [hx2.out]
  have C1 := HBX0.out.one
  have C2 := HBX0.out.two
  generalize (w.alloc (.cells #[.int .u8 (f1.toNat : Int), .int .u16 (a1.toNat : Int), .int .u16 (m1.toNat : Int), .int .u16 (t1.toNat : Int), .slice aw ws.length cw, .slice ab bs.length cb] 26)).alloc (.cells #[.int .u8 (f2.toNat : Int), .int .u8 (x2.toNat : Int), .slice ob ds.length db, .slice ow vs.length dw, .int .u16 (a2.toNat : Int), .int .u16 (m2.toNat : Int)] 48) = W0 at *
  go_wp2_with fail
  have hEC1 := hEC W0 HBX0.out.below
  rw [HEC.out] at hEC1
  have HEC1 := Lib.hid hEC1
  clear hEC1 hEC
  refine HEC1.out.mono ?_
  rintro e w1 ⟨pw, dpw, pb, dpb, rfl, hP, hb1, -⟩
  have HBX1 : Hid (Boxed w #[.int .u8 (f1.toNat : Int), .int .u16 (a1.toNat : Int), .int .u16 (m1.toNat : Int), .int .u16 (t1.toNat : Int), .slice aw ws.length cw, .slice ab bs.length cb] #[.int .u8 (f2.toNat : Int), .int .u8 (x2.toNat : Int), .slice ob ds.length db, .slice ow vs.length dw, .int .u16 (a2.toNat : Int), .int .u16 (m2.toNat : Int)] 26 48 w1) := Lib.hid (HBX0.out.on (hb1.mono HBX0.out.size))
  have HP1 := Lib.hid hP
  clear hb1 hP HEC1 C1 C2 HBX0
  simp only [Option.getD_none, Option.isSome_none, zeroR]
  have D1 := fun (X : Obj) (o : Nat) => (World.cell?_alloc_lt w1 X ⟨w.heap.size, o, none⟩ (by have := HBX1.out.size; show w.heap.size < _; omega)).trans (HBX1.out.one o)
  go_wp2_with fail
  rw [mod6 x]
  generalize x % 6 = y at *
  clear D1
  have HR7 := Lib.hid (heap_alloc_new w1 (.cells #[.int .u8 0, .int .u8 0, .slice pb 0 dpb, .slice pw 0 dpw, .int .u16 0, .int .u16 0] 48))
  have HBA := Lib.hid ((Below.refl w1.heap.size w1).alloc (Nat.le_refl _) (.cells #[.int .u8 0, .int .u8 0, .slice pb 0 dpb, .slice pw 0 dpw, .int .u16 0, .int .u16 0] 48))
  have HZ1 : Hid ((w1.alloc (.cells #[.int .u8 0, .int .u8 0, .slice pb 0 dpb, .slice pw 0 dpw, .int .u16 0, .int .u16 0] 48)).heap.size = w1.heap.size + 1) := Lib.hid (by simp)
  generalize w1.alloc (.cells #[.int .u8 0, .int .u8 0, .slice pb 0 dpb, .slice pw 0 dpw, .int .u16 0, .int .u16 0] 48) = W1 at *
  refine (Wrong_at f1 y W1).mono ?_
  rintro e w2 ⟨rfl, hb2⟩
  have HBX2 : Hid (Boxed w #[.int .u8 (f1.toNat : Int), .int .u16 (a1.toNat : Int), .int .u16 (m1.toNat : Int), .int .u16 (t1.toNat : Int), .slice aw ws.length cw, .slice ab bs.length cb] #[.int .u8 (f2.toNat : Int), .int .u8 (x2.toNat : Int), .slice ob ds.length db, .slice ow vs.length dw, .int .u16 (a2.toNat : Int), .int .u16 (m2.toNat : Int)] 26 48 w2) := Lib.hid ((HBX1.out.on (HBA.out.mono HBX1.out.size)).on (hb2.mono (by have := HBX1.out.size; have := HZ1.out; omega)))
  have HR72 := Lib.hid ((hb2.block w1.heap.size (by have := HZ1.out; omega)).trans HR7.out)
  have HP2 := Lib.hid ((HP1.out.up HBA.out (Nat.le_refl _)).up hb2 (Nat.le_refl _))
  have HL7 : Hid (w1.heap.size < w2.heap.size) := Lib.hid (by have := hb2.size; have := HZ1.out; omega)
  have HG7 : Hid (w.heap.size + 2 ≤ w1.heap.size) := Lib.hid HBX1.out.size
  clear hb2 HR7 HBA HZ1 HP1 HBX1
  have D1 := fun (X : Obj) (o : Nat) => (World.cell?_alloc_lt w2 X ⟨w.heap.size, o, none⟩ (by have := HBX2.out.size; show w.heap.size < _; omega)).trans (HBX2.out.one o)
  go_wp2_with fail
  clear D1
  have HR10 := Lib.hid (heap_alloc_new w2 (.cells #[.int .u8 ((f1 % 128 : UInt8).toNat : Int), .int .u8 (y.toNat : Int), .slice none 0 0, .slice none 0 0, .int .u16 0, .int .u16 0] 48))
  have HBA := Lib.hid ((Below.refl w2.heap.size w2).alloc (Nat.le_refl _) (.cells #[.int .u8 ((f1 % 128 : UInt8).toNat : Int), .int .u8 (y.toNat : Int), .slice none 0 0, .slice none 0 0, .int .u16 0, .int .u16 0] 48))
  have HZ2 : Hid ((w2.alloc (.cells #[.int .u8 ((f1 % 128 : UInt8).toNat : Int), .int .u8 (y.toNat : Int), .slice none 0 0, .slice none 0 0, .int .u16 0, .int .u16 0] 48)).heap.size = w2.heap.size + 1) := Lib.hid (by simp)
  change Calls _ _ _ (w2.alloc (.cells #[.int .u8 ((f1 % 128 : UInt8).toNat : Int), .int .u8 (y.toNat : Int), .slice none 0 0, .slice none 0 0, .int .u16 0, .int .u16 0] 48)) _
  generalize w2.alloc (.cells #[.int .u8 ((f1 % 128 : UInt8).toNat : Int), .int .u8 (y.toNat : Int), .slice none 0 0, .slice none 0 0, .int .u16 0, .int .u16 0] 48) = W2 at *
  refine (Right_any ⟨f1, a1, m1, t1, ws, bs⟩ aw cw ab cb W2 hws hbs).mono ?_
  rw [HRF.out]
  rintro e w3 ⟨rfl, hb3⟩
  have HBX : Hid (Boxed w #[.int .u8 (f1.toNat : Int), .int .u16 (a1.toNat : Int), .int .u16 (m1.toNat : Int), .int .u16 (t1.toNat : Int), .slice aw ws.length cw, .slice ab bs.length cb] #[.int .u8 (f2.toNat : Int), .int .u8 (x2.toNat : Int), .slice ob ds.length db, .slice ow vs.length dw, .int .u16 (a2.toNat : Int), .int .u16 (m2.toNat : Int)] 26 48 w3) := Lib.hid ((HBX2.out.on (HBA.out.mono HBX2.out.size)).on (hb3.mono (by have := HBX2.out.size; have := HZ2.out; omega)))
  have HG10 : Hid (w2.heap.size < w3.heap.size) := Lib.hid (by have := hb3.size; have := HZ2.out; omega)
  have HR7 : ∀ W, Below w3.heap.size w3 W → W.heap[w1.heap.size]? = some (.cells #[.int .u8 0, .int .u8 0, .slice pb 0 dpb, .slice pw 0 dpw, .int .u16 0, .int .u16 0] 48 (0, 0)) := fun W h => (h.block w1.heap.size (by have := HL7.out; have := HG10.out; omega)).trans ((hb3.block w1.heap.size (by have := HL7.out; have := HZ2.out; omega)).trans ((HBA.out.block w1.heap.size HL7.out).trans HR72.out))
  have HRX : ∀ W, Below w3.heap.size w3 W → W.heap[w2.heap.size]? = some (.cells #[.int .u8 ((f1 % 128 : UInt8).toNat : Int), .int .u8 (y.toNat : Int), .slice none 0 0, .slice none 0 0, .int .u16 0, .int .u16 0] 48 (0, 0)) := fun W h => (h.block w2.heap.size HG10.out).trans ((hb3.block w2.heap.size (by have := HZ2.out; omega)).trans HR10.out)
  have HP := Lib.hid ((HP2.out.up HBA.out (Nat.le_refl _)).up hb3 (Nat.le_refl _))
  have HRA : ∀ W, Below w3.heap.size w3 W → W.heap[w.heap.size]? = some (.cells #[.int .u8 (f1.toNat : Int), .int .u16 (a1.toNat : Int), .int .u16 (m1.toNat : Int), .int .u16 (t1.toNat : Int), .slice aw ws.length cw, .slice ab bs.length cb] 26 (0, 0)) := fun W h => (h.block w.heap.size (by have := HBX.out.size; omega)).trans (Boxed.h1 HBX.out)
  have HRR : ∀ W, Below w3.heap.size w3 W → W.heap[w.heap.size + 1]? = some (.cells #[.int .u8 (f2.toNat : Int), .int .u8 (x2.toNat : Int), .slice ob ds.length db, .slice ow vs.length dw, .int .u16 (a2.toNat : Int), .int .u16 (m2.toNat : Int)] 48 (0, 0)) := fun W h => (h.block (w.heap.size + 1) (by have := HBX.out.size; omega)).trans (Boxed.h2 HBX.out)
  have HAT : ∀ W, Below w3.heap.size w3 W → AskAt W W.heap.size ⟨f1, a1, m1, t1, ws, bs⟩ aw cw ab cb := fun W h => (HA.out.below HBX.out.below).below h
  have HRT : ∀ W, Below w3.heap.size w3 W → RepAt W W.heap.size ⟨f2, x2, ds, vs, a2, m2⟩ ow dw ob db := fun W h => (HR.out.below HBX.out.below).below h
  have hB3 := Below.refl w3.heap.size w3
  clear hb3 HR10 HBA HZ2 HP2 HR72 HBX2
  by_cases hy : 1 ≤ y.toNat
  · obtain ⟨q2, hq2⟩ : ∃ q2, decide (y.toNat ≤ 4) = q2 := ⟨_, rfl⟩
    have HQ2 : Hid (decide ((y.toNat : Int) ≤ 4) = q2) := Lib.hid (by rw [← hq2, Bool.eq_iff_iff, decide_eq_true_eq, decide_eq_true_eq]; omega)
    have HFW : Hid (fitsN ⟨f1, a1, m1, t1, ws, bs⟩ (wrongN f1 y) = q2) := Lib.hid (by rw [HFWA.out y, hq2, decide_eq_true hy, Bool.true_and])
    clear hq2
    have C1 := fun i => cell_of_row _ _ i _ _ _ (HRA w3 hB3)
    go_wp2_with fail
    clear C1
    have HF1 : ∀ W, Below w3.heap.size w3 W → Calls Try.prog 41 #[.agg #[.int .u8 (f1.toNat : Int), .int .u16 (a1.toNat : Int), .int .u16 (m1.toNat : Int), .int .u16 (t1.toNat : Int), .slice aw ws.length cw, .slice ab bs.length cb], .agg #[.int .u8 ((f1 % 128 : UInt8).toNat : Int), .int .u8 (y.toNat : Int), .slice none 0 0, .slice none 0 0, .int .u16 0, .int .u16 0]] W fun e W' => e = .returned (.bool q2) ∧ Below w3.heap.size w3 W' := fun W h => (Fits_at _ _ ⟨f1, a1, m1, t1, ws, bs⟩ aw cw ab cb (wrongN f1 y) none 0 none 0 W rfl rfl (HAT W h) ⟨Sl.none_, Sl.none_⟩ hws hbs HFW.out).mono fun _ _ ⟨he, hb⟩ => ⟨he, h.trans (hb.mono h.size)⟩
    have HWR : ∀ W, Below w3.heap.size w3 W → Calls Try.prog 40 #[.int .u8 ((f1 + 1 : UInt8).toNat : Int), .int .u8 1] W fun e W' => e = .returned (.agg #[.int .u8 (((f1 + 1) % 128 : UInt8).toNat : Int), .int .u8 1, .slice none 0 0, .slice none 0 0, .int .u16 0, .int .u16 0]) ∧ Below w3.heap.size w3 W' := fun W h => (Wrong_any (f1 + 1) 1 W).mono fun _ _ ⟨he, hb⟩ => ⟨he, h.trans (hb.mono h.size)⟩
    have HF2 : ∀ W, Below w3.heap.size w3 W → Calls Try.prog 41 #[.agg #[.int .u8 (f1.toNat : Int), .int .u16 (a1.toNat : Int), .int .u16 (m1.toNat : Int), .int .u16 (t1.toNat : Int), .slice aw ws.length cw, .slice ab bs.length cb], .agg #[.int .u8 (((f1 + 1) % 128 : UInt8).toNat : Int), .int .u8 1, .slice none 0 0, .slice none 0 0, .int .u16 0, .int .u16 0]] W fun e W' => e = .returned (.bool false) ∧ Below w3.heap.size w3 W' := fun W h => (Fits_at _ _ ⟨f1, a1, m1, t1, ws, bs⟩ aw cw ab cb (wrongN (f1 + 1) 1) none 0 none 0 W rfl rfl (HAT W h) ⟨Sl.none_, Sl.none_⟩ hws hbs HFO.out).mono fun _ _ ⟨he, hb⟩ => ⟨he, h.trans (hb.mono h.size)⟩
    refine region_quiet (fun W => Below w3.heap.size w3 W) (by kernel_rfl) (by kernel_rfl) (hB3).drew ?_
    intro ops Q' hops hQ
    refine QP.val (.bool false) (by rfl) (fun wC hC => runq_move rfl (by kernel_rfl)) ?_
    refine QP.val (.bool false) (by rfl) (fun wC hC => runq_move rfl (by kernel_rfl)) ?_
    refine QP.val (.bool false) (by rfl) (fun wC hC => runq_neqb (p := false) (q := false) Try.underlying4 rfl (by kernel_rfl) (by kernel_rfl) rfl) ?_
    refine QP.val (.bool false) (by rfl) (fun wC hC => runq_move rfl (by kernel_rfl)) ?_
    refine QP.val (.agg #[.int .u8 (f1.toNat : Int), .int .u16 (a1.toNat : Int), .int .u16 (m1.toNat : Int), .int .u16 (t1.toNat : Int), .slice aw ws.length cw, .slice ab bs.length cb]) (wantedq (j := 3) (d := 79) (want := false) (b := false) rfl (by rw [hops.out]; rfl) (by kernel_rfl) rfl) (fun wC hC => runq_load_row (t := 26) (g := w.heap.size) (fr := (0, 0)) rfl (by kernel_rfl) (HRA wC hC) Try.underlying26 rfl (by kernel_rfl)) ?_
    refine QP.val (.agg #[.int .u8 ((f1 % 128 : UInt8).toNat : Int), .int .u8 (y.toNat : Int), .slice none 0 0, .slice none 0 0, .int .u16 0, .int .u16 0]) (wantedq (j := 3) (d := 79) (want := false) (b := false) rfl (by rw [hops.out]; rfl) (by kernel_rfl) rfl) (fun wC hC => runq_load_row (t := 48) (g := w2.heap.size) (fr := (0, 0)) rfl (by kernel_rfl) (HRX wC hC) Try.underlying48 rfl (by kernel_rfl)) ?_
    refine QP.call 41 #[.agg #[.int .u8 (f1.toNat : Int), .int .u16 (a1.toNat : Int), .int .u16 (m1.toNat : Int), .int .u16 (t1.toNat : Int), .slice aw ws.length cw, .slice ab bs.length cb], .agg #[.int .u8 ((f1 % 128 : UInt8).toNat : Int), .int .u8 (y.toNat : Int), .slice none 0 0, .slice none 0 0, .int .u16 0, .int .u16 0]] (.bool q2) (wantedq (j := 3) (d := 79) (want := false) (b := false) rfl (by rw [hops.out]; rfl) (by kernel_rfl) rfl) (fun wC hC => (congrArg (fun s => Sem.run Try.prog s wC) (by kernel_rfl)).trans (enters_fits #[.agg #[.int .u8 (f1.toNat : Int), .int .u16 (a1.toNat : Int), .int .u16 (m1.toNat : Int), .int .u16 (t1.toNat : Int), .slice aw ws.length cw, .slice ab bs.length cb], .agg #[.int .u8 ((f1 % 128 : UInt8).toNat : Int), .int .u8 (y.toNat : Int), .slice none 0 0, .slice none 0 0, .int .u16 0, .int .u16 0]] wC)) (fun wC hC => HF1 wC hC) ?_
    refine QP.val (.int .u8 (y.toNat : Int)) (wantedq (j := 3) (d := 79) (want := false) (b := false) rfl (by rw [hops.out]; rfl) (by kernel_rfl) rfl) (fun wC hC => runq_move rfl (by kernel_rfl)) ?_
    refine QP.val (.bool true) (wantedq (j := 3) (d := 79) (want := false) (b := false) rfl (by rw [hops.out]; rfl) (by kernel_rfl) rfl) (fun wC hC => runq_geq (k := .u8) (p := (y.toNat : Int)) (q := 1) rfl (by kernel_rfl) (by kernel_rfl) (by simp; omega)) ?_
    refine QP.val (.bool true) (wantedq (j := 3) (d := 79) (want := false) (b := false) rfl (by rw [hops.out]; rfl) (by kernel_rfl) rfl) (fun wC hC => runq_move rfl (by kernel_rfl)) ?_
    refine QP.val (.int .u8 (y.toNat : Int)) (wantedq (j := 9) (d := 85) (want := true) (b := true) rfl (by rw [hops.out]; rfl) (by kernel_rfl) rfl) (fun wC hC => runq_move rfl (by kernel_rfl)) ?_
    refine QP.val (.bool q2) (wantedq (j := 9) (d := 85) (want := true) (b := true) rfl (by rw [hops.out]; rfl) (by kernel_rfl) rfl) (fun wC hC => runq_leq (k := .u8) (p := (y.toNat : Int)) (q := 4) rfl (by kernel_rfl) (by kernel_rfl) HQ2.out) ?_
    refine QP.val (.bool q2) (wantedq (j := 3) (d := 79) (want := false) (b := false) rfl (by rw [hops.out]; rfl) (by kernel_rfl) rfl) (fun wC hC => runq_pick (c := true) rfl (by kernel_rfl) (by kernel_rfl)) ?_
    refine QP.val (.bool false) (wantedq (j := 3) (d := 79) (want := false) (b := false) rfl (by rw [hops.out]; rfl) (by kernel_rfl) rfl) (fun wC hC => runq_neqb (p := q2) (q := q2) Try.underlying4 rfl (by kernel_rfl) (by kernel_rfl) (by simp)) ?_
    refine QP.val (.bool false) (by rfl) (fun wC hC => runq_pick (c := false) rfl (by kernel_rfl) (by kernel_rfl)) ?_
    refine QP.val (.bool false) (by rfl) (fun wC hC => runq_move rfl (by kernel_rfl)) ?_
    refine QP.val (.agg #[.int .u8 (f1.toNat : Int), .int .u16 (a1.toNat : Int), .int .u16 (m1.toNat : Int), .int .u16 (t1.toNat : Int), .slice aw ws.length cw, .slice ab bs.length cb]) (wantedq (j := 15) (d := 91) (want := false) (b := false) rfl (by rw [hops.out]; rfl) (by kernel_rfl) rfl) (fun wC hC => runq_load_row (t := 26) (g := w.heap.size) (fr := (0, 0)) rfl (by kernel_rfl) (HRA wC hC) Try.underlying26 rfl (by kernel_rfl)) ?_
    refine QP.val (.pointer (some ⟨w.heap.size, 0, none⟩)) (wantedq (j := 15) (d := 91) (want := false) (b := false) rfl (by rw [hops.out]; rfl) (by kernel_rfl) rfl) (fun wC hC => by kernel_rfl) ?_
    refine QP.val (.int .u8 (f1.toNat : Int)) (wantedq (j := 15) (d := 91) (want := false) (b := false) rfl (by rw [hops.out]; rfl) (by kernel_rfl) rfl) (fun wC hC => runq_load_int (p := ⟨w.heap.size, 0, none⟩) rfl (by kernel_rfl) (cell_of_row _ _ 0 _ _ _ (HRA wC hC)) Try.underlying5) ?_
    refine QP.val (.int .u8 ((f1 + 1 : UInt8).toNat : Int)) (wantedq (j := 15) (d := 91) (want := false) (b := false) rfl (by rw [hops.out]; rfl) (by kernel_rfl) rfl) (fun wC hC => runq_add (k := .u8) (p := (f1.toNat : Int)) (q := 1) rfl (by kernel_rfl) (by kernel_rfl) (add_one8 f1)) ?_
    refine QP.call 40 #[.int .u8 ((f1 + 1 : UInt8).toNat : Int), .int .u8 1] (.agg #[.int .u8 (((f1 + 1) % 128 : UInt8).toNat : Int), .int .u8 1, .slice none 0 0, .slice none 0 0, .int .u16 0, .int .u16 0]) (wantedq (j := 15) (d := 91) (want := false) (b := false) rfl (by rw [hops.out]; rfl) (by kernel_rfl) rfl) (fun wC hC => (congrArg (fun s => Sem.run Try.prog s wC) (by kernel_rfl)).trans (enters_wrong #[.int .u8 ((f1 + 1 : UInt8).toNat : Int), .int .u8 1] wC)) (fun wC hC => HWR wC hC) ?_
    refine QP.call 41 #[.agg #[.int .u8 (f1.toNat : Int), .int .u16 (a1.toNat : Int), .int .u16 (m1.toNat : Int), .int .u16 (t1.toNat : Int), .slice aw ws.length cw, .slice ab bs.length cb], .agg #[.int .u8 (((f1 + 1) % 128 : UInt8).toNat : Int), .int .u8 1, .slice none 0 0, .slice none 0 0, .int .u16 0, .int .u16 0]] (.bool false) (wantedq (j := 15) (d := 91) (want := false) (b := false) rfl (by rw [hops.out]; rfl) (by kernel_rfl) rfl) (fun wC hC => (congrArg (fun s => Sem.run Try.prog s wC) (by kernel_rfl)).trans (enters_fits #[.agg #[.int .u8 (f1.toNat : Int), .int .u16 (a1.toNat : Int), .int .u16 (m1.toNat : Int), .int .u16 (t1.toNat : Int), .slice aw ws.length cw, .slice ab bs.length cb], .agg #[.int .u8 (((f1 + 1) % 128 : UInt8).toNat : Int), .int .u8 1, .slice none 0 0, .slice none 0 0, .int .u16 0, .int .u16 0]] wC)) (fun wC hC => HF2 wC hC) ?_
    refine QP.val (.bool false) (by rfl) (fun wC hC => runq_pick (c := false) rfl (by kernel_rfl) (by kernel_rfl)) ?_
    refine QP.val (.bool false) (by rfl) (fun wC hC => runq_move rfl (by kernel_rfl)) ?_
    refine QP.val (.bool false) (wantedq (j := 23) (d := 99) (want := false) (b := false) rfl (by rw [hops.out]; rfl) (by kernel_rfl) rfl) (fun wC hC => runq_move rfl (by kernel_rfl)) ?_
    refine QP.val (.bool false) (wantedq (j := 23) (d := 99) (want := false) (b := false) rfl (by rw [hops.out]; rfl) (by kernel_rfl) rfl) (fun wC hC => runq_move rfl (by kernel_rfl)) ?_
    refine QP.skip (wantedq (j := 25) (d := 101) (want := true) (b := false) rfl (by rw [hops.out]; rfl) (by kernel_rfl) rfl) ?_
    refine QP.skip (wantedq (j := 25) (d := 101) (want := true) (b := false) rfl (by rw [hops.out]; rfl) (by kernel_rfl) rfl) ?_
    refine QP.skip (wantedq (j := 25) (d := 101) (want := true) (b := false) rfl (by rw [hops.out]; rfl) (by kernel_rfl) rfl) ?_
    refine QP.skip (wantedq (j := 25) (d := 101) (want := true) (b := false) rfl (by rw [hops.out]; rfl) (by kernel_rfl) rfl) ?_
    refine QP.val (.bool false) (wantedq (j := 23) (d := 99) (want := false) (b := false) rfl (by rw [hops.out]; rfl) (by kernel_rfl) rfl) (fun wC hC => runq_pick (c := false) rfl (by kernel_rfl) (by kernel_rfl)) ?_
    refine QP.val (.bool false) (by rfl) (fun wC hC => runq_pick (c := false) rfl (by kernel_rfl) (by kernel_rfl)) ?_
    refine QP.nil (hQ.out _ fun w8 hCw8 => ?_)
    simp only [Act.put, List.setIfInBounds_toArray, List.set_cons_succ, List.set_cons_zero]
    clear hops hQ HF1 HWR HF2
    go_wp2_with fail
    refine region_quiet (fun W => Below w3.heap.size w3 W) (by kernel_rfl) (by kernel_rfl) (hCw8).drew ?_
    intro ops Q' hops hQ
    refine QP.val (.bool false) (by rfl) (fun wC hC => runq_move rfl (by kernel_rfl)) ?_
    refine QP.val (.bool false) (by rfl) (fun wC hC => runq_move rfl (by kernel_rfl)) ?_
    refine QP.skip (wantedq (j := 1) (d := 109) (want := true) (b := false) rfl (by rw [hops.out]; rfl) (by kernel_rfl) rfl) ?_
    refine QP.skip (wantedq (j := 1) (d := 109) (want := true) (b := false) rfl (by rw [hops.out]; rfl) (by kernel_rfl) rfl) ?_
    refine QP.skip (wantedq (j := 1) (d := 109) (want := true) (b := false) rfl (by rw [hops.out]; rfl) (by kernel_rfl) rfl) ?_
    refine QP.val (.bool false) (by rfl) (fun wC hC => runq_pick (c := false) rfl (by kernel_rfl) (by kernel_rfl)) ?_
    refine QP.val (.bool false) (by rfl) (fun wC hC => runq_move rfl (by kernel_rfl)) ?_
    refine QP.skip (wantedq (j := 6) (d := 114) (want := true) (b := false) rfl (by rw [hops.out]; rfl) (by kernel_rfl) rfl) ?_
    refine QP.skip (wantedq (j := 6) (d := 114) (want := true) (b := false) rfl (by rw [hops.out]; rfl) (by kernel_rfl) rfl) ?_
    refine QP.skip (wantedq (j := 6) (d := 114) (want := true) (b := false) rfl (by rw [hops.out]; rfl) (by kernel_rfl) rfl) ?_
    refine QP.skip (wantedq (j := 6) (d := 114) (want := true) (b := false) rfl (by rw [hops.out]; rfl) (by kernel_rfl) rfl) ?_
    refine QP.skip (wantedq (j := 6) (d := 114) (want := true) (b := false) rfl (by rw [hops.out]; rfl) (by kernel_rfl) rfl) ?_
    refine QP.skip (wantedq (j := 6) (d := 114) (want := true) (b := false) rfl (by rw [hops.out]; rfl) (by kernel_rfl) rfl) ?_
    refine QP.skip (wantedq (j := 6) (d := 114) (want := true) (b := false) rfl (by rw [hops.out]; rfl) (by kernel_rfl) rfl) ?_
    refine QP.val (.bool false) (by rfl) (fun wC hC => runq_pick (c := false) rfl (by kernel_rfl) (by kernel_rfl)) ?_
    refine QP.nil (hQ.out _ fun w9 hCw9 => ?_)
    simp only [Act.put, List.setIfInBounds_toArray, List.set_cons_succ, List.set_cons_zero]
    clear hops hQ hCw8
    go_wp2_with fail
    have HB8 := Lib.hid (HBX.out.below.trans (hCw9.mono HBX.out.below.size))
    clear HR7 HRX HRA HRR HAT HRT hCw9
    refine (rawake_any _).mono ?_
    rintro e w11 ⟨rfl, hb11⟩
    have HB11 := Lib.hid (HB8.out.trans (hb11.mono HB8.out.size))
    go_wp2_with fail
    go_ret
    exact Says.mk HB11.out
  · have HFW : Hid (fitsN ⟨f1, a1, m1, t1, ws, bs⟩ (wrongN f1 y) = false) := Lib.hid (by rw [HFWA.out y, decide_eq_false hy, Bool.false_and])
    have C1 := fun i => cell_of_row _ _ i _ _ _ (HRA w3 hB3)
    go_wp2_with fail
    clear C1
    have HF1 : ∀ W, Below w3.heap.size w3 W → Calls Try.prog 41 #[.agg #[.int .u8 (f1.toNat : Int), .int .u16 (a1.toNat : Int), .int .u16 (m1.toNat : Int), .int .u16 (t1.toNat : Int), .slice aw ws.length cw, .slice ab bs.length cb], .agg #[.int .u8 ((f1 % 128 : UInt8).toNat : Int), .int .u8 (y.toNat : Int), .slice none 0 0, .slice none 0 0, .int .u16 0, .int .u16 0]] W fun e W' => e = .returned (.bool false) ∧ Below w3.heap.size w3 W' := fun W h => (Fits_at _ _ ⟨f1, a1, m1, t1, ws, bs⟩ aw cw ab cb (wrongN f1 y) none 0 none 0 W rfl rfl (HAT W h) ⟨Sl.none_, Sl.none_⟩ hws hbs HFW.out).mono fun _ _ ⟨he, hb⟩ => ⟨he, h.trans (hb.mono h.size)⟩
    have HWR : ∀ W, Below w3.heap.size w3 W → Calls Try.prog 40 #[.int .u8 ((f1 + 1 : UInt8).toNat : Int), .int .u8 1] W fun e W' => e = .returned (.agg #[.int .u8 (((f1 + 1) % 128 : UInt8).toNat : Int), .int .u8 1, .slice none 0 0, .slice none 0 0, .int .u16 0, .int .u16 0]) ∧ Below w3.heap.size w3 W' := fun W h => (Wrong_any (f1 + 1) 1 W).mono fun _ _ ⟨he, hb⟩ => ⟨he, h.trans (hb.mono h.size)⟩
    have HF2 : ∀ W, Below w3.heap.size w3 W → Calls Try.prog 41 #[.agg #[.int .u8 (f1.toNat : Int), .int .u16 (a1.toNat : Int), .int .u16 (m1.toNat : Int), .int .u16 (t1.toNat : Int), .slice aw ws.length cw, .slice ab bs.length cb], .agg #[.int .u8 (((f1 + 1) % 128 : UInt8).toNat : Int), .int .u8 1, .slice none 0 0, .slice none 0 0, .int .u16 0, .int .u16 0]] W fun e W' => e = .returned (.bool false) ∧ Below w3.heap.size w3 W' := fun W h => (Fits_at _ _ ⟨f1, a1, m1, t1, ws, bs⟩ aw cw ab cb (wrongN (f1 + 1) 1) none 0 none 0 W rfl rfl (HAT W h) ⟨Sl.none_, Sl.none_⟩ hws hbs HFO.out).mono fun _ _ ⟨he, hb⟩ => ⟨he, h.trans (hb.mono h.size)⟩
    refine region_quiet (fun W => Below w3.heap.size w3 W) (by kernel_rfl) (by kernel_rfl) (hB3).drew ?_
    intro ops Q' hops hQ
    refine QP.val (.bool false) (by rfl) (fun wC hC => runq_move rfl (by kernel_rfl)) ?_
    refine QP.val (.bool false) (by rfl) (fun wC hC => runq_move rfl (by kernel_rfl)) ?_
    refine QP.val (.bool false) (by rfl) (fun wC hC => runq_neqb (p := false) (q := false) Try.underlying4 rfl (by kernel_rfl) (by kernel_rfl) rfl) ?_
    refine QP.val (.bool false) (by rfl) (fun wC hC => runq_move rfl (by kernel_rfl)) ?_
    refine QP.val (.agg #[.int .u8 (f1.toNat : Int), .int .u16 (a1.toNat : Int), .int .u16 (m1.toNat : Int), .int .u16 (t1.toNat : Int), .slice aw ws.length cw, .slice ab bs.length cb]) (wantedq (j := 3) (d := 79) (want := false) (b := false) rfl (by rw [hops.out]; rfl) (by kernel_rfl) rfl) (fun wC hC => runq_load_row (t := 26) (g := w.heap.size) (fr := (0, 0)) rfl (by kernel_rfl) (HRA wC hC) Try.underlying26 rfl (by kernel_rfl)) ?_
    refine QP.val (.agg #[.int .u8 ((f1 % 128 : UInt8).toNat : Int), .int .u8 (y.toNat : Int), .slice none 0 0, .slice none 0 0, .int .u16 0, .int .u16 0]) (wantedq (j := 3) (d := 79) (want := false) (b := false) rfl (by rw [hops.out]; rfl) (by kernel_rfl) rfl) (fun wC hC => runq_load_row (t := 48) (g := w2.heap.size) (fr := (0, 0)) rfl (by kernel_rfl) (HRX wC hC) Try.underlying48 rfl (by kernel_rfl)) ?_
    refine QP.call 41 #[.agg #[.int .u8 (f1.toNat : Int), .int .u16 (a1.toNat : Int), .int .u16 (m1.toNat : Int), .int .u16 (t1.toNat : Int), .slice aw ws.length cw, .slice ab bs.length cb], .agg #[.int .u8 ((f1 % 128 : UInt8).toNat : Int), .int .u8 (y.toNat : Int), .slice none 0 0, .slice none 0 0, .int .u16 0, .int .u16 0]] (.bool false) (wantedq (j := 3) (d := 79) (want := false) (b := false) rfl (by rw [hops.out]; rfl) (by kernel_rfl) rfl) (fun wC hC => (congrArg (fun s => Sem.run Try.prog s wC) (by kernel_rfl)).trans (enters_fits #[.agg #[.int .u8 (f1.toNat : Int), .int .u16 (a1.toNat : Int), .int .u16 (m1.toNat : Int), .int .u16 (t1.toNat : Int), .slice aw ws.length cw, .slice ab bs.length cb], .agg #[.int .u8 ((f1 % 128 : UInt8).toNat : Int), .int .u8 (y.toNat : Int), .slice none 0 0, .slice none 0 0, .int .u16 0, .int .u16 0]] wC)) (fun wC hC => HF1 wC hC) ?_
    refine QP.val (.int .u8 (y.toNat : Int)) (wantedq (j := 3) (d := 79) (want := false) (b := false) rfl (by rw [hops.out]; rfl) (by kernel_rfl) rfl) (fun wC hC => runq_move rfl (by kernel_rfl)) ?_
    refine QP.val (.bool false) (wantedq (j := 3) (d := 79) (want := false) (b := false) rfl (by rw [hops.out]; rfl) (by kernel_rfl) rfl) (fun wC hC => runq_geq (k := .u8) (p := (y.toNat : Int)) (q := 1) rfl (by kernel_rfl) (by kernel_rfl) (by simp; omega)) ?_
    refine QP.val (.bool false) (wantedq (j := 3) (d := 79) (want := false) (b := false) rfl (by rw [hops.out]; rfl) (by kernel_rfl) rfl) (fun wC hC => runq_move rfl (by kernel_rfl)) ?_
    refine QP.skip (wantedq (j := 9) (d := 85) (want := true) (b := false) rfl (by rw [hops.out]; rfl) (by kernel_rfl) rfl) ?_
    refine QP.skip (wantedq (j := 9) (d := 85) (want := true) (b := false) rfl (by rw [hops.out]; rfl) (by kernel_rfl) rfl) ?_
    refine QP.val (.bool false) (wantedq (j := 3) (d := 79) (want := false) (b := false) rfl (by rw [hops.out]; rfl) (by kernel_rfl) rfl) (fun wC hC => runq_pick (c := false) rfl (by kernel_rfl) (by kernel_rfl)) ?_
    refine QP.val (.bool false) (wantedq (j := 3) (d := 79) (want := false) (b := false) rfl (by rw [hops.out]; rfl) (by kernel_rfl) rfl) (fun wC hC => runq_neqb (p := false) (q := false) Try.underlying4 rfl (by kernel_rfl) (by kernel_rfl) rfl) ?_
    refine QP.val (.bool false) (by rfl) (fun wC hC => runq_pick (c := false) rfl (by kernel_rfl) (by kernel_rfl)) ?_
    refine QP.val (.bool false) (by rfl) (fun wC hC => runq_move rfl (by kernel_rfl)) ?_
    refine QP.val (.agg #[.int .u8 (f1.toNat : Int), .int .u16 (a1.toNat : Int), .int .u16 (m1.toNat : Int), .int .u16 (t1.toNat : Int), .slice aw ws.length cw, .slice ab bs.length cb]) (wantedq (j := 15) (d := 91) (want := false) (b := false) rfl (by rw [hops.out]; rfl) (by kernel_rfl) rfl) (fun wC hC => runq_load_row (t := 26) (g := w.heap.size) (fr := (0, 0)) rfl (by kernel_rfl) (HRA wC hC) Try.underlying26 rfl (by kernel_rfl)) ?_
    refine QP.val (.pointer (some ⟨w.heap.size, 0, none⟩)) (wantedq (j := 15) (d := 91) (want := false) (b := false) rfl (by rw [hops.out]; rfl) (by kernel_rfl) rfl) (fun wC hC => by kernel_rfl) ?_
    refine QP.val (.int .u8 (f1.toNat : Int)) (wantedq (j := 15) (d := 91) (want := false) (b := false) rfl (by rw [hops.out]; rfl) (by kernel_rfl) rfl) (fun wC hC => runq_load_int (p := ⟨w.heap.size, 0, none⟩) rfl (by kernel_rfl) (cell_of_row _ _ 0 _ _ _ (HRA wC hC)) Try.underlying5) ?_
    refine QP.val (.int .u8 ((f1 + 1 : UInt8).toNat : Int)) (wantedq (j := 15) (d := 91) (want := false) (b := false) rfl (by rw [hops.out]; rfl) (by kernel_rfl) rfl) (fun wC hC => runq_add (k := .u8) (p := (f1.toNat : Int)) (q := 1) rfl (by kernel_rfl) (by kernel_rfl) (add_one8 f1)) ?_
    refine QP.call 40 #[.int .u8 ((f1 + 1 : UInt8).toNat : Int), .int .u8 1] (.agg #[.int .u8 (((f1 + 1) % 128 : UInt8).toNat : Int), .int .u8 1, .slice none 0 0, .slice none 0 0, .int .u16 0, .int .u16 0]) (wantedq (j := 15) (d := 91) (want := false) (b := false) rfl (by rw [hops.out]; rfl) (by kernel_rfl) rfl) (fun wC hC => (congrArg (fun s => Sem.run Try.prog s wC) (by kernel_rfl)).trans (enters_wrong #[.int .u8 ((f1 + 1 : UInt8).toNat : Int), .int .u8 1] wC)) (fun wC hC => HWR wC hC) ?_
    refine QP.call 41 #[.agg #[.int .u8 (f1.toNat : Int), .int .u16 (a1.toNat : Int), .int .u16 (m1.toNat : Int), .int .u16 (t1.toNat : Int), .slice aw ws.length cw, .slice ab bs.length cb], .agg #[.int .u8 (((f1 + 1) % 128 : UInt8).toNat : Int), .int .u8 1, .slice none 0 0, .slice none 0 0, .int .u16 0, .int .u16 0]] (.bool false) (wantedq (j := 15) (d := 91) (want := false) (b := false) rfl (by rw [hops.out]; rfl) (by kernel_rfl) rfl) (fun wC hC => (congrArg (fun s => Sem.run Try.prog s wC) (by kernel_rfl)).trans (enters_fits #[.agg #[.int .u8 (f1.toNat : Int), .int .u16 (a1.toNat : Int), .int .u16 (m1.toNat : Int), .int .u16 (t1.toNat : Int), .slice aw ws.length cw, .slice ab bs.length cb], .agg #[.int .u8 (((f1 + 1) % 128 : UInt8).toNat : Int), .int .u8 1, .slice none 0 0, .slice none 0 0, .int .u16 0, .int .u16 0]] wC)) (fun wC hC => HF2 wC hC) ?_
    refine QP.val (.bool false) (by rfl) (fun wC hC => runq_pick (c := false) rfl (by kernel_rfl) (by kernel_rfl)) ?_
    refine QP.val (.bool false) (by rfl) (fun wC hC => runq_move rfl (by kernel_rfl)) ?_
    refine QP.val (.bool false) (wantedq (j := 23) (d := 99) (want := false) (b := false) rfl (by rw [hops.out]; rfl) (by kernel_rfl) rfl) (fun wC hC => runq_move rfl (by kernel_rfl)) ?_
    refine QP.val (.bool false) (wantedq (j := 23) (d := 99) (want := false) (b := false) rfl (by rw [hops.out]; rfl) (by kernel_rfl) rfl) (fun wC hC => runq_move rfl (by kernel_rfl)) ?_
    refine QP.skip (wantedq (j := 25) (d := 101) (want := true) (b := false) rfl (by rw [hops.out]; rfl) (by kernel_rfl) rfl) ?_
    refine QP.skip (wantedq (j := 25) (d := 101) (want := true) (b := false) rfl (by rw [hops.out]; rfl) (by kernel_rfl) rfl) ?_
    refine QP.skip (wantedq (j := 25) (d := 101) (want := true) (b := false) rfl (by rw [hops.out]; rfl) (by kernel_rfl) rfl) ?_
    refine QP.skip (wantedq (j := 25) (d := 101) (want := true) (b := false) rfl (by rw [hops.out]; rfl) (by kernel_rfl) rfl) ?_
    refine QP.val (.bool false) (wantedq (j := 23) (d := 99) (want := false) (b := false) rfl (by rw [hops.out]; rfl) (by kernel_rfl) rfl) (fun wC hC => runq_pick (c := false) rfl (by kernel_rfl) (by kernel_rfl)) ?_
    refine QP.val (.bool false) (by rfl) (fun wC hC => runq_pick (c := false) rfl (by kernel_rfl) (by kernel_rfl)) ?_
    refine QP.nil (hQ.out _ fun w8 hCw8 => ?_)
    simp only [Act.put, List.setIfInBounds_toArray, List.set_cons_succ, List.set_cons_zero]
    clear hops hQ HF1 HWR HF2
    go_wp2_with fail
    refine region_quiet (fun W => Below w3.heap.size w3 W) (by kernel_rfl) (by kernel_rfl) (hCw8).drew ?_
    intro ops Q' hops hQ
    refine QP.val (.bool false) (by rfl) (fun wC hC => runq_move rfl (by kernel_rfl)) ?_
    refine QP.val (.bool false) (by rfl) (fun wC hC => runq_move rfl (by kernel_rfl)) ?_
    refine QP.skip (wantedq (j := 1) (d := 109) (want := true) (b := false) rfl (by rw [hops.out]; rfl) (by kernel_rfl) rfl) ?_
    refine QP.skip (wantedq (j := 1) (d := 109) (want := true) (b := false) rfl (by rw [hops.out]; rfl) (by kernel_rfl) rfl) ?_
    refine QP.skip (wantedq (j := 1) (d := 109) (want := true) (b := false) rfl (by rw [hops.out]; rfl) (by kernel_rfl) rfl) ?_
    refine QP.val (.bool false) (by rfl) (fun wC hC => runq_pick (c := false) rfl (by kernel_rfl) (by kernel_rfl)) ?_
    refine QP.val (.bool false) (by rfl) (fun wC hC => runq_move rfl (by kernel_rfl)) ?_
    refine QP.skip (wantedq (j := 6) (d := 114) (want := true) (b := false) rfl (by rw [hops.out]; rfl) (by kernel_rfl) rfl) ?_
    refine QP.skip (wantedq (j := 6) (d := 114) (want := true) (b := false) rfl (by rw [hops.out]; rfl) (by kernel_rfl) rfl) ?_
    refine QP.skip (wantedq (j := 6) (d := 114) (want := true) (b := false) rfl (by rw [hops.out]; rfl) (by kernel_rfl) rfl) ?_
    refine QP.skip (wantedq (j := 6) (d := 114) (want := true) (b := false) rfl (by rw [hops.out]; rfl) (by kernel_rfl) rfl) ?_
    refine QP.skip (wantedq (j := 6) (d := 114) (want := true) (b := false) rfl (by rw [hops.out]; rfl) (by kernel_rfl) rfl) ?_
    refine QP.skip (wantedq (j := 6) (d := 114) (want := true) (b := false) rfl (by rw [hops.out]; rfl) (by kernel_rfl) rfl) ?_
    refine QP.skip (wantedq (j := 6) (d := 114) (want := true) (b := false) rfl (by rw [hops.out]; rfl) (by kernel_rfl) rfl) ?_
    refine QP.val (.bool false) (by rfl) (fun wC hC => runq_pick (c := false) rfl (by kernel_rfl) (by kernel_rfl)) ?_
    refine QP.nil (hQ.out _ fun w9 hCw9 => ?_)
    simp only [Act.put, List.setIfInBounds_toArray, List.set_cons_succ, List.set_cons_zero]
    clear hops hQ hCw8
    go_wp2_with fail
    have HB8 := Lib.hid (HBX.out.below.trans (hCw9.mono HBX.out.below.size))
    clear HR7 HRX HRA HRR HAT HRT hCw9
    refine (rawake_any _).mono ?_
    rintro e w11 ⟨rfl, hb11⟩
    have HB11 := Lib.hid (HB8.out.trans (hb11.mono HB8.out.size))
    go_wp2_with fail
    go_ret
    exact Says.mk HB11.out
end Go.Proofs.Ytiecncnmmecjcaa.ReplyW
