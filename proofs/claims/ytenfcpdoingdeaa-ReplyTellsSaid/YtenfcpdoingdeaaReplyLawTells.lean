/- Replies beside the document's own answer: which are right, and the same, their bytes, what bytes say, echoes, which fits which request. -/
import Derived.Test.YtenfcpdoingdeaaRefRParse
import Derived.Test.YtenfcpdoingdeaaRefEcho
import Derived.Test.YtenfcpdoingdeaaRefSame
import Derived.Test.YtenfcpdoingdeaaReplyEcho
import Derived.Test.YtenfcpdoingdeaaAskKit
import Derived.Test.YtenfcpdoingdeaaQuiet
import Derived.Test.YtenfcpdoingdeaaStep
open Go.RowKit
namespace Go.Proofs.Ytenfcpdoingdeaa.RefW
open AskM AskW ReplyM ReplyW Mem

theorem b8_one : ∀ x : UInt8, (b8 x).oneCell' = true := fun _ => rfl
theorem enters_rr (args : Array Value) (w : World) : (callFunc 29 args).run Try.prog w = .ok (.enter 29 args) w := by
  have h := Try.func29
  unfold callFunc
  rw [Sem.run_bind]
  simp only [run_program, Result.andThen_ok, h]
  have e1 : (Try.f29.name == "runtime.NumGoroutine") = false := by kernel_rfl
  have e2 : Try.f29.body.isNone = false := by kernel_rfl
  rw [e1, e2]
  rfl
theorem enters_rrr (args : Array Value) (w : World) : (callFunc 30 args).run Try.prog w = .ok (.enter 30 args) w := by
  have h := Try.func30
  unfold callFunc
  rw [Sem.run_bind]
  simp only [run_program, Result.andThen_ok, h]
  have e1 : (Try.f30.name == "runtime.NumGoroutine") = false := by kernel_rfl
  have e2 : Try.f30.body.isNone = false := by kernel_rfl
  rw [e1, e2]
  rfl
theorem enters_rs (args : Array Value) (w : World) : (callFunc 31 args).run Try.prog w = .ok (.enter 31 args) w := by
  have h := Try.func31
  unfold callFunc
  rw [Sem.run_bind]
  simp only [run_program, Result.andThen_ok, h]
  have e1 : (Try.f31.name == "runtime.NumGoroutine") = false := by kernel_rfl
  have e2 : Try.f31.body.isNone = false := by kernel_rfl
  rw [e1, e2]
  rfl
theorem enters_rrs (args : Array Value) (w : World) : (callFunc 32 args).run Try.prog w = .ok (.enter 32 args) w := by
  have h := Try.func32
  unfold callFunc
  rw [Sem.run_bind]
  simp only [run_program, Result.andThen_ok, h]
  have e1 : (Try.f32.name == "runtime.NumGoroutine") = false := by kernel_rfl
  have e2 : Try.f32.body.isNone = false := by kernel_rfl
  rw [e1, e2]
  rfl
theorem enters_fits (args : Array Value) (w : World) : (callFunc 36 args).run Try.prog w = .ok (.enter 36 args) w := by
  have h := Try.func36
  unfold callFunc
  rw [Sem.run_bind]
  simp only [run_program, Result.andThen_ok, h]
  have e1 : (Try.f36.name == "runtime.NumGoroutine") = false := by kernel_rfl
  have e2 : Try.f36.body.isNone = false := by kernel_rfl
  rw [e1, e2]
  rfl
theorem enters_rfits (args : Array Value) (w : World) : (callFunc 37 args).run Try.prog w = .ok (.enter 37 args) w := by
  have h := Try.func37
  unfold callFunc
  rw [Sem.run_bind]
  simp only [run_program, Result.andThen_ok, h]
  have e1 : (Try.f37.name == "runtime.NumGoroutine") = false := by kernel_rfl
  have e2 : Try.f37.body.isNone = false := by kernel_rfl
  rw [e1, e2]
  rfl
theorem enters_rawake (args : Array Value) (w : World) : (callFunc 24 args).run Try.prog w = .ok (.enter 24 args) w := by
  have h := Try.func24
  unfold callFunc
  rw [Sem.run_bind]
  simp only [run_program, Result.andThen_ok, h]
  have e1 : (Try.f24.name == "runtime.NumGoroutine") = false := by kernel_rfl
  have e2 : Try.f24.body.isNone = false := by kernel_rfl
  rw [e1, e2]
  rfl

theorem says_on {W0 W : World} {f : FuncId} {args : Array Value} {b x : Bool} (h : Below W0.heap.size W0 W) (hc : Calls Try.prog f args W (Says (.bool b) W)) (hx : b = x) :
    Calls Try.prog f args W fun e W' => e = .returned (.bool x) ∧ Below W0.heap.size W0 W' :=
  hc.mono fun _ _ ⟨he, hb⟩ => ⟨by rw [he, hx], h.trans (hb.mono h.size)⟩
theorem rgives_all {o : Option (List UInt8)} {w w' : World} {e : Ending} (h : RGives o w e w') :
    ∃ x n c er, e = .returned (.tuple #[.slice x n c, .int .i64 er]) ∧ Sl b8 w' w'.heap.size x n c (o.getD []) ∧ Hid (er = if o.isSome = true then 0 else 13) ∧ Below w.heap.size w w' := by
  cases o with
  | none => exact ⟨none, 0, 0, 13, h.1, Sl.none_, rfl, h.2⟩
  | some b =>
    obtain ⟨a, c, he, hs, hb, _⟩ := h
    exact ⟨a, _, c, 0, he, hs, rfl, hb⟩
theorem runq_rem8 {P : Program} {w : World} {o : Oper} {ev : Operand → Value} {x y : Operand} {T S : TypeId} {F : UInt8} (ho : o.op = Op.binOp .rem T x y S) (hx : ev x = b8 F) (hy : ev y = .int .u8 128) :
    (execOp ev o).run P w = .ok (.value (b8 (F % 128))) w := by
  have h1 := F.toNat_lt
  have h2 : ((F % 128).toNat : Int) = (F.toNat : Int) % 128 := by rw [UInt8.toNat_mod]; rfl
  have h3 : (F.toNat : Int).tmod 128 = (F.toNat : Int) % 128 := Int.tmod_eq_emod_of_nonneg (by omega)
  simp [execOp, ho, hx, hy, go_sem, h3]
theorem echo_small (a : Req) (h1 : a.words.length ≤ 1000000) (h2 : a.bits.length ≤ 1000000) : ((echoN a).getD zeroR).words.length ≤ 1000000 ∧ ((echoN a).getD zeroR).bits.length ≤ 1000000 := by
  unfold echoN
  split
  · simp [zeroR]
  split
  · simp; exact h2
  split
  · simp; exact h1
  split
  · simp
  · simp [zeroR]
/-- Three boxes. -/
def Boxed3 (w : World) (c1 c2 c3 : Array Value) (W : World) : Prop := Below (w.heap.size + 3) (((w.alloc (.cells c1 45)).alloc (.cells c2 45)).alloc (.cells c3 26)) W
section
variable {w W W' : World} {c1 c2 c3 : Array Value}
theorem Boxed3.size (h : Boxed3 w c1 c2 c3 W) : w.heap.size + 3 ≤ W.heap.size := by have := Below.size h; simp at this; omega
theorem Boxed3.on (h : Boxed3 w c1 c2 c3 W) (h2 : Below W.heap.size W W') : Boxed3 w c1 c2 c3 W' := Below.trans h (h2.mono h.size)
theorem Boxed3.h1 (h : Boxed3 w c1 c2 c3 W) : W.heap[w.heap.size]? = some (.cells c1 45 (0, 0)) := by
  rw [Below.block h _ (by omega), Below.heap_alloc _ _ _ (by simp; omega), Below.heap_alloc _ _ _ (by simp)]
  exact heap_alloc_new w _
theorem Boxed3.h2 (h : Boxed3 w c1 c2 c3 W) : W.heap[w.heap.size + 1]? = some (.cells c2 45 (0, 0)) := by
  rw [Below.block h _ (by omega), Below.heap_alloc _ _ _ (by simp)]
  have := heap_alloc_new (w.alloc (.cells c1 45)) (.cells c2 45)
  rwa [World.size_alloc] at this
theorem Boxed3.h3 (h : Boxed3 w c1 c2 c3 W) : W.heap[w.heap.size + 2]? = some (.cells c3 26 (0, 0)) := by
  rw [Below.block h _ (by omega)]
  have := heap_alloc_new ((w.alloc (.cells c1 45)).alloc (.cells c2 45)) (.cells c3 26)
  rwa [World.size_alloc, World.size_alloc] at this
theorem Boxed3.below (h : Boxed3 w c1 c2 c3 W) : Below w.heap.size w W :=
  ((((Below.refl _ _).alloc (Nat.le_refl _) _).alloc (by simp) _).alloc (by simp; omega) _).trans (Below.mono h (by omega))
end
/-- The arguments, and the copy of the bytes, all along. -/
structure TR (w W : World) (c1 c2 c3 : Array Value) (b : Option Addr) (n c : Nat) (p : Option Addr) (d : Nat) (l : List UInt8) : Prop where
  box : Boxed3 w c1 c2 c3 W
  bb : Sl b8 W W.heap.size b n c l
  ii : Sl b8 W W.heap.size p n d l
theorem TR.on {w W W' : World} {c1 c2 c3 : Array Value} {b p : Option Addr} {n c d : Nat} {l : List UInt8} (h : TR w W c1 c2 c3 b n c p d l) (hb : Below W.heap.size W W') : TR w W' c1 c2 c3 b n c p d l :=
  ⟨h.box.on hb, (h.bb.below hb (Nat.le_refl _)).more hb.size, (h.ii.below hb (Nat.le_refl _)).more hb.size⟩
theorem below_one (w : World) (o : Obj) : Below w.heap.size w (w.alloc o) := (Below.refl _ _).alloc (Nat.le_refl _) o
theorem row_on {w w' : World} {g : Nat} {o : Obj} (h : w.heap[g]? = some o) (hb : Below w.heap.size w w') : w'.heap[g]? = some o := (hb.block g (Array.getElem?_eq_some_iff.1 h).1).trans h
theorem Sl.onn {α : Type} {f : α → Value} {w w' : World} {n c : Nat} {a : Option Addr} {l : List α} (h : Sl f w w.heap.size a n c l) (hb : Below w.heap.size w w') : Sl f w' w'.heap.size a n c l := (h.below hb (Nat.le_refl _)).more hb.size
set_option maxRecDepth 100000 in
set_option maxHeartbeats 40000000 in
theorem ReplyTells_walk (r : Rep) (aw : Option Addr) (cw : Nat) (ab : Option Addr) (cb : Nat) (o : Rep) (ow : Option Addr) (dw : Nat) (ob : Option Addr) (db : Nat) (a : Req) (qw : Option Addr) (ew : Nat) (qb : Option Addr) (eb : Nat)
    (b : Option Addr) (n c : Nat) (l : List UInt8) (y4 y5 : Nat) (w : World)
    (hR : RepAt w w.heap.size r aw cw ab cb) (hO : RepAt w w.heap.size o ow dw ob db) (hA : AskAt w w.heap.size a qw ew qb eb) (hS : Sl b8 w w.heap.size b n c l) (b4 : y4 < 256) (b5 : y5 < 256) :
    Calls Try.prog 4 #[repV r aw cw ab cb, repV o ow dw ob db, askV a qw ew qb eb, .slice b n c, .int .u8 (y4 : Int), .int .u8 (y5 : Int)] w (Says (.bool true) w) := by
  obtain ⟨F, rfl⟩ : ∃ F : UInt8, y4 = F.toNat := ⟨UInt8.ofNat y4, by simp; omega⟩
  obtain ⟨X, rfl⟩ : ∃ X : UInt8, y5 = X.toNat := ⟨UInt8.ofNat y5, by simp; omega⟩
  have hn := len_le hS
  have l1 := len_le hR.words
  have l2 := len_le hR.bits
  have l3 := len_le hO.words
  have l4 := len_le hO.bits
  have l5 := len_le hA.words
  have l6 := len_le hA.bits
  have HS := Lib.hid hS
  have HR := Lib.hid hR
  have HO := Lib.hid hO
  have HA := Lib.hid hA
  clear hS hR hO hA b4 b5
  obtain ⟨f1, x1, bs, ws, a1, m1⟩ := r
  obtain ⟨f2, x2, ds, vs, a2, m2⟩ := o
  obtain ⟨f3, a3, m3, t3, us, es⟩ := a
  simp only at l1 l2 l3 l4 l5 l6
  have HB0 : Hid (Boxed3 w #[b8 f1, b8 x1, .slice ab bs.length cb, .slice aw ws.length cw, b16 a1, b16 m1] #[b8 f2, b8 x2, .slice ob ds.length db, .slice ow vs.length dw, b16 a2, b16 m2] #[b8 f3, b16 a3, b16 m3, b16 t3, .slice qw us.length ew, .slice qb es.length eb] (((w.alloc (.cells #[b8 f1, b8 x1, .slice ab bs.length cb, .slice aw ws.length cw, b16 a1, b16 m1] 45)).alloc (.cells #[b8 f2, b8 x2, .slice ob ds.length db, .slice ow vs.length dw, b16 a2, b16 m2] 45)).alloc (.cells #[b8 f3, b16 a3, b16 m3, b16 t3, .slice qw us.length ew, .slice qb es.length eb] 26))) := Lib.hid (Below.refl _ _)
  by_cases h1 : ws.length ≤ 200 ∧ bs.length ≤ 2100
  case neg =>
    have hx := Lib.hid (few_false h1)
    clear h1
    go_enter Try.func4, Try.ntmps4
    go_wp2_with fail
    refine (Few_any _ _ _ _ _ _ _ l1 l2).mono ?_
    rintro e w1 ⟨rfl, rfl⟩
    rw [hx.out]
    go_wp2_with fail
    refine (rawake_any _).mono ?_
    rintro e w1 ⟨rfl, hb⟩
    go_wp2_with fail
    go_ret
    exact Says.mk (HB0.out.below.trans (hb.mono HB0.out.below.size))
  have hx1 := Lib.hid (few_true h1.1 h1.2)
  by_cases h2 : vs.length ≤ 200 ∧ ds.length ≤ 2100
  case neg =>
    have hx := Lib.hid (few_false h2)
    clear h1 h2
    go_enter Try.func4, Try.ntmps4
    go_wp2_with fail
    refine (Few_any _ _ _ _ _ _ _ l1 l2).mono ?_
    rintro e w1 ⟨rfl, rfl⟩
    rw [hx1.out]
    go_wp2_with fail
    refine (Few_any _ _ _ _ _ _ _ l3 l4).mono ?_
    rintro e w1 ⟨rfl, rfl⟩
    rw [hx.out]
    go_wp2_with fail
    refine (rawake_any _).mono ?_
    rintro e w1 ⟨rfl, hb⟩
    go_wp2_with fail
    go_ret
    exact Says.mk (HB0.out.below.trans (hb.mono HB0.out.below.size))
  have hx2 := Lib.hid (few_true h2.1 h2.2)
  by_cases h3 : us.length ≤ 200 ∧ es.length ≤ 2100
  case neg =>
    have hx := Lib.hid (few_false h3)
    clear h1 h2 h3
    go_enter Try.func4, Try.ntmps4
    go_wp2_with fail
    refine (Few_any _ _ _ _ _ _ _ l1 l2).mono ?_
    rintro e w1 ⟨rfl, rfl⟩
    rw [hx1.out]
    go_wp2_with fail
    refine (Few_any _ _ _ _ _ _ _ l3 l4).mono ?_
    rintro e w1 ⟨rfl, rfl⟩
    rw [hx2.out]
    go_wp2_with fail
    refine (Few_any _ _ _ _ _ _ _ l5 l6).mono ?_
    rintro e w1 ⟨rfl, rfl⟩
    rw [hx.out]
    go_wp2_with fail
    refine (rawake_any _).mono ?_
    rintro e w1 ⟨rfl, hb⟩
    go_wp2_with fail
    go_ret
    exact Says.mk (HB0.out.below.trans (hb.mono HB0.out.below.size))
  have hx3 := Lib.hid (few_true h3.1 h3.2)
  by_cases h4 : 300 < n
  · have h4' : decide (300 < (n : Int)) = true := by simp; omega
    clear h1 h2 h3
    go_enter Try.func4, Try.ntmps4
    go_wp2_with fail
    refine (Few_any _ _ _ _ _ _ _ l1 l2).mono ?_
    rintro e w1 ⟨rfl, rfl⟩
    rw [hx1.out]
    go_wp2_with fail
    refine (Few_any _ _ _ _ _ _ _ l3 l4).mono ?_
    rintro e w1 ⟨rfl, rfl⟩
    rw [hx2.out]
    go_wp2_with fail
    refine (Few_any _ _ _ _ _ _ _ l5 l6).mono ?_
    rintro e w1 ⟨rfl, rfl⟩
    rw [hx3.out]
    go_wp2_with fail
    refine (rawake_any _).mono ?_
    rintro e w1 ⟨rfl, hb⟩
    go_wp2_with fail
    go_ret
    exact Says.mk (HB0.out.below.trans (hb.mono HB0.out.below.size))
  have h4' : decide (300 < (n : Int)) = false := by simp; omega
  have HW := Lib.hid (And.intro (show ws.length ≤ 1000000 by omega) (show bs.length ≤ 1000000 by omega))
  have HWA := Lib.hid (And.intro (show us.length ≤ 1000000 by omega) (show es.length ≤ 1000000 by omega))
  have n3 : n ≤ 300 := by omega
  obtain ⟨i0, hi0, hz0, hz1, hz2⟩ := info_parts info8
  have hz2' : i0.bytes = 1 := hz2
  have HI := Lib.hid (And.intro hi0 (And.intro hz0 (And.intro hz1 hz2')))
  clear h1 h2 h3 h4 hi0 hz0 hz1 hz2 hz2'
  go_enter Try.func4, Try.ntmps4
  go_wp2_with fail
  refine (Few_any _ _ _ _ _ _ _ l1 l2).mono ?_
  rintro e w1 ⟨rfl, rfl⟩
  rw [hx1.out]
  go_wp2_with fail
  refine (Few_any _ _ _ _ _ _ _ l3 l4).mono ?_
  rintro e w1 ⟨rfl, rfl⟩
  rw [hx2.out]
  go_wp2_with fail
  refine (Few_any _ _ _ _ _ _ _ l5 l6).mono ?_
  rintro e w1 ⟨rfl, rfl⟩
  rw [hx3.out]
  generalize ((w.alloc (.cells #[b8 f1, b8 x1, .slice ab bs.length cb, .slice aw ws.length cw, b16 a1, b16 m1] 45)).alloc (.cells #[b8 f2, b8 x2, .slice ob ds.length db, .slice ow vs.length dw, b16 a2, b16 m2] 45)).alloc (.cells #[b8 f3, b16 a3, b16 m3, b16 t3, .slice qw us.length ew, .slice qb es.length eb] 26) = w0 at *
  go_wp2_with (at_builtin; refine wpList_append_list (f := b8) b8_one rfl (.tmp 55) (.tmp 56) 27 rfl w0.heap.size 5 i0 (.int .u8 0) 1 Try.underlying27 HI.out.1 HI.out.2.1 HI.out.2.2.1 HI.out.2.2.2 rfl (.slice (some ⟨w0.heap.size, 0, none⟩) 0 0) 0 [] rfl (World.ownsRow_made w0 #[] 0 (Nat.le_refl _) (by unfold maxLen; omega) rfl) b n c rfl (B := w0.heap.size) (((HS.out.below HB0.out.below (Nat.le_refl _)).more HB0.out.below.size).alloc (Nat.le_refl _) _) (by unfold maxLen; omega) (by omega) (by simp) ?_; intro vin win hown hgrow; simp only [Nat.zero_add, List.nil_append] at hown; obtain ⟨p, d, rfl, hsp⟩ := Sl.of_own hown; have hbin : Below w0.heap.size w0 win := Grew.below ((Below.refl _ _).alloc (Nat.le_refl _) _) hgrow (by simp) (fun k hk => by simp [Value.ownBlock] at hk; omega); have K1 := Lib.hid (show TR w win #[b8 f1, b8 x1, .slice ab bs.length cb, .slice aw ws.length cw, b16 a1, b16 m1] #[b8 f2, b8 x2, .slice ob ds.length db, .slice ow vs.length dw, b16 a2, b16 m2] #[b8 f3, b16 a3, b16 m3, b16 t3, .slice qw us.length ew, .slice qb es.length eb] b n c p d l from ⟨HB0.out.on hbin, ((HS.out.below HB0.out.below (Nat.le_refl _)).more HB0.out.below.size |>.below hbin (Nat.le_refl _)).more hbin.size, hsp⟩); have C1 := fun i => cell_of_row _ _ i _ _ _ K1.out.box.h1; clear hown hgrow hsp hbin)
  refine (RBytes_any ⟨f1, x1, bs, ws, a1, m1⟩ aw cw ab cb win (RepAt.up HR.out K1.out.box.below (Nat.le_refl _)) HW.out.1 HW.out.2).mono ?_
  intro e w2 h
  obtain ⟨x1_, n1, c1, er, rfl, hs, HE1, hb⟩ := rgives_all h
  have K2 := Lib.hid (K1.out.on hb)
  have HS2 := Lib.hid hs
  clear h hs hb K1 C1
  have C1 := fun i => cell_of_row _ _ i _ _ _ K2.out.box.h1
  go_wp2_with fail
  refine (rRBytes_any ⟨f1, x1, bs, ws, a1, m1⟩ aw cw ab cb w2 (RepAt.up HR.out K2.out.box.below (Nat.le_refl _)) HW.out.1 HW.out.2).mono ?_
  intro e w3 h
  obtain ⟨x2_, n2, c2, er2, rfl, hs, HE2, hb⟩ := rgives_all h
  have K3 := Lib.hid (K2.out.on hb)
  have HS3 := Lib.hid (And.intro (Sl.onn HS2.out hb) hs)
  have hee : er2 = er := by rw [HE2.out, HE1.out]
  subst hee
  clear h hs hb K2 HS2 C1 HE1 HE2
  have HPA := Lib.hid (RParse_any _ _ _ _ w3 K3.out.ii)
  go_wp2_with fail
  refine HPA.out.mono ?_
  rintro e w4 ⟨pw, pcw, pb, pcb, rfl, hP, hb, -⟩
  have K5 := Lib.hid (K3.out.on hb)
  have HS5 := Lib.hid (And.intro (Sl.onn HS3.out.1 hb) (Sl.onn HS3.out.2 hb))
  have HP5 := Lib.hid hP
  clear hP hb HPA K3 HS3
  generalize hpo : rparseN l = po at *
  generalize hq : po.getD zeroR = q at *
  generalize hev : (if po.isSome = true then (0 : Int) else 13) = ev at *
  have HRP := Lib.hid (fun W (h : TR w W #[b8 f1, b8 x1, .slice ab bs.length cb, .slice aw ws.length cw, b16 a1, b16 m1] #[b8 f2, b8 x2, .slice ob ds.length db, .slice ow vs.length dw, b16 a2, b16 m2] #[b8 f3, b16 a3, b16 m3, b16 t3, .slice qw us.length ew, .slice qb es.length eb] b n c p d l) => by have h2 := rRParse_any b n c l W h.bb (by omega); rw [hpo] at h2; exact h2)
  have HEQ := Lib.hid (And.intro hq hev)
  clear hq hev
  obtain ⟨g1, g2, rs, qs, g3, g4⟩ := q
  have K5a := Lib.hid (K5.out.on (below_one w4 (.cells #[b8 g1, b8 g2, .slice pb rs.length pcb, .slice pw qs.length pcw, b16 g3, b16 g4] 45)))
  have HS5a := Lib.hid (And.intro (Sl.onn HS5.out.1 (below_one w4 (.cells #[b8 g1, b8 g2, .slice pb rs.length pcb, .slice pw qs.length pcw, b16 g3, b16 g4] 45))) (Sl.onn HS5.out.2 (below_one w4 (.cells #[b8 g1, b8 g2, .slice pb rs.length pcb, .slice pw qs.length pcw, b16 g3, b16 g4] 45))))
  have HP5a := Lib.hid (HP5.out.below (below_one w4 (.cells #[b8 g1, b8 g2, .slice pb rs.length pcb, .slice pw qs.length pcw, b16 g3, b16 g4] 45)))
  have HX5 := Lib.hid (heap_alloc_new w4 (.cells #[b8 g1, b8 g2, .slice pb rs.length pcb, .slice pw qs.length pcw, b16 g3, b16 g4] 45))
  have HRP2 := Lib.hid (HRP.out _ K5a.out)
  clear K5 HP5 HRP HS5
  go_wp2_with fail
  refine HRP2.out.mono ?_
  rintro e w5 ⟨rw_, rcw, rb, rcb, rfl, hP, hb, -⟩
  rw [HEQ.out.1] at hP ⊢
  rw [HEQ.out.2]
  have K6 := Lib.hid ((K5a.out.on hb).on (below_one w5 (.cells #[b8 g1, b8 g2, .slice rb rs.length rcb, .slice rw_ qs.length rcw, b16 g3, b16 g4] 45)))
  have HS6 := Lib.hid (And.intro (Sl.onn (Sl.onn HS5a.out.1 hb) (below_one w5 (.cells #[b8 g1, b8 g2, .slice rb rs.length rcb, .slice rw_ qs.length rcw, b16 g3, b16 g4] 45))) (Sl.onn (Sl.onn HS5a.out.2 hb) (below_one w5 (.cells #[b8 g1, b8 g2, .slice rb rs.length rcb, .slice rw_ qs.length rcw, b16 g3, b16 g4] 45))))
  have HP6 := Lib.hid ((HP5a.out.below hb).below (below_one w5 (.cells #[b8 g1, b8 g2, .slice rb rs.length rcb, .slice rw_ qs.length rcw, b16 g3, b16 g4] 45)))
  have HQ6 := Lib.hid (RepAt.below hP (below_one w5 (.cells #[b8 g1, b8 g2, .slice rb rs.length rcb, .slice rw_ qs.length rcw, b16 g3, b16 g4] 45)))
  have HX6 := Lib.hid (row_on (row_on HX5.out hb) (below_one w5 (.cells #[b8 g1, b8 g2, .slice rb rs.length rcb, .slice rw_ qs.length rcw, b16 g3, b16 g4] 45)))
  have HY6 := Lib.hid (heap_alloc_new w5 (.cells #[b8 g1, b8 g2, .slice rb rs.length rcb, .slice rw_ qs.length rcw, b16 g3, b16 g4] 45))
  clear hP hb HRP2 K5a HP5a HX5 HEQ hpo HS5a
  go_wp2_with fail
  generalize w5.alloc (.cells #[b8 g1, b8 g2, .slice rb rs.length rcb, .slice rw_ qs.length rcw, b16 g3, b16 g4] 45) = W0 at *
  have hR0 := RepAt.up HR.out K6.out.box.below (Nat.le_refl _)
  have hO0 := RepAt.up HO.out K6.out.box.below (Nat.le_refl _)
  have HR1 : ∀ W, Below W0.heap.size W0 W → W.heap[w.heap.size]? = some (.cells #[b8 f1, b8 x1, .slice ab bs.length cb, .slice aw ws.length cw, b16 a1, b16 m1] 45 (0, 0)) := fun W h => (K6.out.on h).box.h1
  have HR2 : ∀ W, Below W0.heap.size W0 W → W.heap[w.heap.size + 1]? = some (.cells #[b8 f2, b8 x2, .slice ob ds.length db, .slice ow vs.length dw, b16 a2, b16 m2] 45 (0, 0)) := fun W h => (K6.out.on h).box.h2
  have HR3 : ∀ W, Below W0.heap.size W0 W → W.heap[w4.heap.size]? = some (.cells #[b8 g1, b8 g2, .slice pb rs.length pcb, .slice pw qs.length pcw, b16 g3, b16 g4] 45 (0, 0)) := fun W h => row_on HX6.out h
  have HR4 : ∀ W, Below W0.heap.size W0 W → W.heap[w5.heap.size]? = some (.cells #[b8 g1, b8 g2, .slice rb rs.length rcb, .slice rw_ qs.length rcw, b16 g3, b16 g4] 45 (0, 0)) := fun W h => row_on HY6.out h
  obtain ⟨rr, hrr⟩ : ∃ x, rrightN ⟨f1, x1, bs, ws, a1, m1⟩ = x := ⟨_, rfl⟩
  obtain ⟨ss, hss⟩ : ∃ x, decide ((⟨f1, x1, bs, ws, a1, m1⟩ : Rep) = ⟨f2, x2, ds, vs, a2, m2⟩) = x := ⟨_, rfl⟩
  have HQ1 := Lib.hid (fun W (h : Below W0.heap.size W0 W) => says_on h (RRight_any ⟨f1, x1, bs, ws, a1, m1⟩ aw cw ab cb W (hR0.below h)) hrr)
  have HQ2 := Lib.hid (fun W (h : Below W0.heap.size W0 W) => says_on h (rRRight_any ⟨f1, x1, bs, ws, a1, m1⟩ aw cw ab cb W HW.out.1 HW.out.2) hrr)
  have HQ3 := Lib.hid (fun W (h : Below W0.heap.size W0 W) => says_on h (RSame_any _ _ _ _ _ _ _ _ _ _ W (hR0.below h) (hO0.below h)) hss)
  have HQ4 := Lib.hid (fun W (h : Below W0.heap.size W0 W) => says_on h (rRSame_any _ _ _ _ _ _ _ _ _ _ W (hR0.below h) (hO0.below h)) hss)
  have HQ5 := Lib.hid (lowsame_on HS6.out.1 HS6.out.2 (decide_eq_true rfl))
  have HQ6b := Lib.hid (fun W (h : Below W0.heap.size W0 W) => says_on h (rRSame_any _ _ _ _ _ _ _ _ _ _ W (HP6.out.below h) (HQ6.out.below h)) (decide_eq_true rfl))
  have HQ7 := Lib.hid (lowsame_on K6.out.ii K6.out.bb (decide_eq_true rfl))
  clear hR0 hO0 hrr hss HS6 HP6 HQ6 HX6 HY6
  refine region_quiet (fun W => Below W0.heap.size W0 W) (by kernel_rfl) (by kernel_rfl) (Below.refl _ _).drew ?_
  intro ops Q' hops hQ
  refine QP.val (.agg #[b8 f1, b8 x1, .slice ab bs.length cb, .slice aw ws.length cw, b16 a1, b16 m1]) (by rfl) (fun wC hC => runq_load_row (t := 45) (g := w.heap.size) (fr := (0, 0)) rfl (by kernel_rfl) (HR1 wC hC) Try.underlying45 rfl (by kernel_rfl)) ?_
  refine QP.call 29 #[.agg #[b8 f1, b8 x1, .slice ab bs.length cb, .slice aw ws.length cw, b16 a1, b16 m1]] (.bool rr) (by rfl) (fun wC hC => (congrArg (fun s => Sem.run Try.prog s wC) (by kernel_rfl)).trans (enters_rr #[.agg #[b8 f1, b8 x1, .slice ab bs.length cb, .slice aw ws.length cw, b16 a1, b16 m1]] wC)) (fun wC hC => HQ1.out wC hC) ?_
  refine QP.val (.agg #[b8 f1, b8 x1, .slice ab bs.length cb, .slice aw ws.length cw, b16 a1, b16 m1]) (by rfl) (fun wC hC => runq_load_row (t := 45) (g := w.heap.size) (fr := (0, 0)) rfl (by kernel_rfl) (HR1 wC hC) Try.underlying45 rfl (by kernel_rfl)) ?_
  refine QP.call 30 #[.agg #[b8 f1, b8 x1, .slice ab bs.length cb, .slice aw ws.length cw, b16 a1, b16 m1]] (.bool rr) (by rfl) (fun wC hC => (congrArg (fun s => Sem.run Try.prog s wC) (by kernel_rfl)).trans (enters_rrr #[.agg #[b8 f1, b8 x1, .slice ab bs.length cb, .slice aw ws.length cw, b16 a1, b16 m1]] wC)) (fun wC hC => HQ2.out wC hC) ?_
  refine QP.val (.bool false) (by rfl) (fun wC hC => runq_neqb (p := rr) (q := rr) Try.underlying4 rfl (by kernel_rfl) (by kernel_rfl) (by cases rr <;> rfl)) ?_
  refine QP.val (.bool false) (by rfl) (fun wC hC => runq_move rfl (by kernel_rfl)) ?_
  refine QP.val (.agg #[b8 f1, b8 x1, .slice ab bs.length cb, .slice aw ws.length cw, b16 a1, b16 m1]) (wantedq (j := 5) (d := 83) (want := false) (b := false) rfl (by rw [hops.out]; rfl) (by kernel_rfl) rfl) (fun wC hC => runq_load_row (t := 45) (g := w.heap.size) (fr := (0, 0)) rfl (by kernel_rfl) (HR1 wC hC) Try.underlying45 rfl (by kernel_rfl)) ?_
  refine QP.val (.agg #[b8 f2, b8 x2, .slice ob ds.length db, .slice ow vs.length dw, b16 a2, b16 m2]) (wantedq (j := 5) (d := 83) (want := false) (b := false) rfl (by rw [hops.out]; rfl) (by kernel_rfl) rfl) (fun wC hC => runq_load_row (t := 45) (g := w.heap.size + 1) (fr := (0, 0)) rfl (by kernel_rfl) (HR2 wC hC) Try.underlying45 rfl (by kernel_rfl)) ?_
  refine QP.call 31 #[.agg #[b8 f1, b8 x1, .slice ab bs.length cb, .slice aw ws.length cw, b16 a1, b16 m1], .agg #[b8 f2, b8 x2, .slice ob ds.length db, .slice ow vs.length dw, b16 a2, b16 m2]] (.bool ss) (wantedq (j := 5) (d := 83) (want := false) (b := false) rfl (by rw [hops.out]; rfl) (by kernel_rfl) rfl) (fun wC hC => (congrArg (fun s => Sem.run Try.prog s wC) (by kernel_rfl)).trans (enters_rs #[.agg #[b8 f1, b8 x1, .slice ab bs.length cb, .slice aw ws.length cw, b16 a1, b16 m1], .agg #[b8 f2, b8 x2, .slice ob ds.length db, .slice ow vs.length dw, b16 a2, b16 m2]] wC)) (fun wC hC => HQ3.out wC hC) ?_
  refine QP.val (.agg #[b8 f1, b8 x1, .slice ab bs.length cb, .slice aw ws.length cw, b16 a1, b16 m1]) (wantedq (j := 5) (d := 83) (want := false) (b := false) rfl (by rw [hops.out]; rfl) (by kernel_rfl) rfl) (fun wC hC => runq_load_row (t := 45) (g := w.heap.size) (fr := (0, 0)) rfl (by kernel_rfl) (HR1 wC hC) Try.underlying45 rfl (by kernel_rfl)) ?_
  refine QP.val (.agg #[b8 f2, b8 x2, .slice ob ds.length db, .slice ow vs.length dw, b16 a2, b16 m2]) (wantedq (j := 5) (d := 83) (want := false) (b := false) rfl (by rw [hops.out]; rfl) (by kernel_rfl) rfl) (fun wC hC => runq_load_row (t := 45) (g := w.heap.size + 1) (fr := (0, 0)) rfl (by kernel_rfl) (HR2 wC hC) Try.underlying45 rfl (by kernel_rfl)) ?_
  refine QP.call 32 #[.agg #[b8 f1, b8 x1, .slice ab bs.length cb, .slice aw ws.length cw, b16 a1, b16 m1], .agg #[b8 f2, b8 x2, .slice ob ds.length db, .slice ow vs.length dw, b16 a2, b16 m2]] (.bool ss) (wantedq (j := 5) (d := 83) (want := false) (b := false) rfl (by rw [hops.out]; rfl) (by kernel_rfl) rfl) (fun wC hC => (congrArg (fun s => Sem.run Try.prog s wC) (by kernel_rfl)).trans (enters_rrs #[.agg #[b8 f1, b8 x1, .slice ab bs.length cb, .slice aw ws.length cw, b16 a1, b16 m1], .agg #[b8 f2, b8 x2, .slice ob ds.length db, .slice ow vs.length dw, b16 a2, b16 m2]] wC)) (fun wC hC => HQ4.out wC hC) ?_
  refine QP.val (.bool false) (wantedq (j := 5) (d := 83) (want := false) (b := false) rfl (by rw [hops.out]; rfl) (by kernel_rfl) rfl) (fun wC hC => runq_neqb (p := ss) (q := ss) Try.underlying4 rfl (by kernel_rfl) (by kernel_rfl) (by cases ss <;> rfl)) ?_
  refine QP.val (.bool false) (by rfl) (fun wC hC => runq_pick (c := false) rfl (by kernel_rfl) (by kernel_rfl)) ?_
  refine QP.val (.bool false) (by rfl) (fun wC hC => runq_move rfl (by kernel_rfl)) ?_
  refine QP.val (.int .i64 er2) (wantedq (j := 14) (d := 92) (want := false) (b := false) rfl (by rw [hops.out]; rfl) (by kernel_rfl) rfl) (fun wC hC => runq_move rfl (by kernel_rfl)) ?_
  refine QP.val (.int .i64 er2) (wantedq (j := 14) (d := 92) (want := false) (b := false) rfl (by rw [hops.out]; rfl) (by kernel_rfl) rfl) (fun wC hC => runq_move rfl (by kernel_rfl)) ?_
  refine QP.val (.bool false) (wantedq (j := 14) (d := 92) (want := false) (b := false) rfl (by rw [hops.out]; rfl) (by kernel_rfl) rfl) (fun wC hC => runq_neq (k := .i64) (p := er2) (q := er2) rfl (by kernel_rfl) (by kernel_rfl) (by simp)) ?_
  refine QP.val (.bool false) (by rfl) (fun wC hC => runq_pick (c := false) rfl (by kernel_rfl) (by kernel_rfl)) ?_
  refine QP.val (.bool false) (by rfl) (fun wC hC => runq_move rfl (by kernel_rfl)) ?_
  refine QP.val (.slice x1_ n1 c1) (wantedq (j := 19) (d := 97) (want := false) (b := false) rfl (by rw [hops.out]; rfl) (by kernel_rfl) rfl) (fun wC hC => runq_move rfl (by kernel_rfl)) ?_
  refine QP.val (.slice x2_ n2 c2) (wantedq (j := 19) (d := 97) (want := false) (b := false) rfl (by rw [hops.out]; rfl) (by kernel_rfl) rfl) (fun wC hC => runq_move rfl (by kernel_rfl)) ?_
  refine QP.call 14 #[.slice x1_ n1 c1, .slice x2_ n2 c2] (.bool true) (wantedq (j := 19) (d := 97) (want := false) (b := false) rfl (by rw [hops.out]; rfl) (by kernel_rfl) rfl) (fun wC hC => (congrArg (fun s => Sem.run Try.prog s wC) (by kernel_rfl)).trans (enters_low #[.slice x1_ n1 c1, .slice x2_ n2 c2] wC)) (fun wC hC => HQ5.out wC hC) ?_
  refine QP.val (.bool false) (wantedq (j := 19) (d := 97) (want := false) (b := false) rfl (by rw [hops.out]; rfl) (by kernel_rfl) rfl) (fun wC hC => runq_not (c := true) rfl (by kernel_rfl) rfl) ?_
  refine QP.val (.bool false) (by rfl) (fun wC hC => runq_pick (c := false) rfl (by kernel_rfl) (by kernel_rfl)) ?_
  refine QP.val (.bool false) (by rfl) (fun wC hC => runq_move rfl (by kernel_rfl)) ?_
  refine QP.val (.int .i64 ev) (wantedq (j := 25) (d := 103) (want := false) (b := false) rfl (by rw [hops.out]; rfl) (by kernel_rfl) rfl) (fun wC hC => runq_move rfl (by kernel_rfl)) ?_
  refine QP.val (.int .i64 ev) (wantedq (j := 25) (d := 103) (want := false) (b := false) rfl (by rw [hops.out]; rfl) (by kernel_rfl) rfl) (fun wC hC => runq_move rfl (by kernel_rfl)) ?_
  refine QP.val (.bool false) (wantedq (j := 25) (d := 103) (want := false) (b := false) rfl (by rw [hops.out]; rfl) (by kernel_rfl) rfl) (fun wC hC => runq_neq (k := .i64) (p := ev) (q := ev) rfl (by kernel_rfl) (by kernel_rfl) (by simp)) ?_
  refine QP.val (.bool false) (by rfl) (fun wC hC => runq_pick (c := false) rfl (by kernel_rfl) (by kernel_rfl)) ?_
  refine QP.val (.bool false) (by rfl) (fun wC hC => runq_move rfl (by kernel_rfl)) ?_
  refine QP.val (.agg #[b8 g1, b8 g2, .slice pb rs.length pcb, .slice pw qs.length pcw, b16 g3, b16 g4]) (wantedq (j := 30) (d := 108) (want := false) (b := false) rfl (by rw [hops.out]; rfl) (by kernel_rfl) rfl) (fun wC hC => runq_load_row (t := 45) (g := w4.heap.size) (fr := (0, 0)) rfl (by kernel_rfl) (HR3 wC hC) Try.underlying45 rfl (by kernel_rfl)) ?_
  refine QP.val (.agg #[b8 g1, b8 g2, .slice rb rs.length rcb, .slice rw_ qs.length rcw, b16 g3, b16 g4]) (wantedq (j := 30) (d := 108) (want := false) (b := false) rfl (by rw [hops.out]; rfl) (by kernel_rfl) rfl) (fun wC hC => runq_load_row (t := 45) (g := w5.heap.size) (fr := (0, 0)) rfl (by kernel_rfl) (HR4 wC hC) Try.underlying45 rfl (by kernel_rfl)) ?_
  refine QP.call 32 #[.agg #[b8 g1, b8 g2, .slice pb rs.length pcb, .slice pw qs.length pcw, b16 g3, b16 g4], .agg #[b8 g1, b8 g2, .slice rb rs.length rcb, .slice rw_ qs.length rcw, b16 g3, b16 g4]] (.bool true) (wantedq (j := 30) (d := 108) (want := false) (b := false) rfl (by rw [hops.out]; rfl) (by kernel_rfl) rfl) (fun wC hC => (congrArg (fun s => Sem.run Try.prog s wC) (by kernel_rfl)).trans (enters_rrs #[.agg #[b8 g1, b8 g2, .slice pb rs.length pcb, .slice pw qs.length pcw, b16 g3, b16 g4], .agg #[b8 g1, b8 g2, .slice rb rs.length rcb, .slice rw_ qs.length rcw, b16 g3, b16 g4]] wC)) (fun wC hC => HQ6b.out wC hC) ?_
  refine QP.val (.bool false) (wantedq (j := 30) (d := 108) (want := false) (b := false) rfl (by rw [hops.out]; rfl) (by kernel_rfl) rfl) (fun wC hC => runq_not (c := true) rfl (by kernel_rfl) rfl) ?_
  refine QP.val (.bool false) (by rfl) (fun wC hC => runq_pick (c := false) rfl (by kernel_rfl) (by kernel_rfl)) ?_
  refine QP.val (.bool false) (by rfl) (fun wC hC => runq_move rfl (by kernel_rfl)) ?_
  refine QP.val (.slice p n d) (wantedq (j := 36) (d := 114) (want := false) (b := false) rfl (by rw [hops.out]; rfl) (by kernel_rfl) rfl) (fun wC hC => runq_move rfl (by kernel_rfl)) ?_
  refine QP.val (.slice b n c) (wantedq (j := 36) (d := 114) (want := false) (b := false) rfl (by rw [hops.out]; rfl) (by kernel_rfl) rfl) (fun wC hC => runq_move rfl (by kernel_rfl)) ?_
  refine QP.call 14 #[.slice p n d, .slice b n c] (.bool true) (wantedq (j := 36) (d := 114) (want := false) (b := false) rfl (by rw [hops.out]; rfl) (by kernel_rfl) rfl) (fun wC hC => (congrArg (fun s => Sem.run Try.prog s wC) (by kernel_rfl)).trans (enters_low #[.slice p n d, .slice b n c] wC)) (fun wC hC => HQ7.out wC hC) ?_
  refine QP.val (.bool false) (wantedq (j := 36) (d := 114) (want := false) (b := false) rfl (by rw [hops.out]; rfl) (by kernel_rfl) rfl) (fun wC hC => runq_not (c := true) rfl (by kernel_rfl) rfl) ?_
  refine QP.val (.bool false) (by rfl) (fun wC hC => runq_pick (c := false) rfl (by kernel_rfl) (by kernel_rfl)) ?_
  refine QP.nil (hQ.out _ fun W3 hC => ?_)
  simp only [Act.put, List.setIfInBounds_toArray, List.set_cons_succ, List.set_cons_zero]
  clear hops hQ HR1 HR2 HR3 HR4 HQ1 HQ2 HQ3 HQ4 HQ5 HQ6b HQ7
  have K7 := Lib.hid (K6.out.on hC)
  clear hC K6
  -- ECHO
  have C3 := fun i => cell_of_row _ _ i _ _ _ K7.out.box.h3
  go_wp2_with fail
  refine (Echo_any ⟨f3, a3, m3, t3, us, es⟩ qw ew qb eb W3 (AskAt.below (HA.out.below K7.out.box.below) (Below.refl _ _)) HWA.out.1 HWA.out.2).mono ?_
  rintro e wE ⟨sw, scw, sb, scb, rfl, hE, hb, -⟩
  clear C3
  have HEC := Lib.hid (fun W (h : TR w W #[b8 f1, b8 x1, .slice ab bs.length cb, .slice aw ws.length cw, b16 a1, b16 m1] #[b8 f2, b8 x2, .slice ob ds.length db, .slice ow vs.length dw, b16 a2, b16 m2] #[b8 f3, b16 a3, b16 m3, b16 t3, .slice qw us.length ew, .slice qb es.length eb] b n c p d l) => rEcho_any ⟨f3, a3, m3, t3, us, es⟩ qw ew qb eb W (HA.out.below h.box.below) HWA.out.1 HWA.out.2)
  have HJL0 := Lib.hid (echo_small ⟨f3, a3, m3, t3, us, es⟩ HWA.out.1 HWA.out.2)
  generalize echoN ⟨f3, a3, m3, t3, us, es⟩ = eo at *
  generalize hq2 : eo.getD zeroR = q2 at *
  generalize hez : eo.isSome = ez at *
  have HEQ2 := Lib.hid (And.intro hq2 hez)
  clear hq2 hez
  obtain ⟨j1, j2, js, jw, j3, j4⟩ := q2
  have HJL : Hid (jw.length ≤ 1000000 ∧ js.length ≤ 1000000) := Lib.hid HJL0.out
  clear HJL0
  have K8 := Lib.hid ((K7.out.on hb).on (below_one wE (.cells #[b8 j1, b8 j2, .slice sb js.length scb, .slice sw jw.length scw, b16 j3, b16 j4] 45)))
  have HE8 := Lib.hid (RepAt.below hE (below_one wE (.cells #[b8 j1, b8 j2, .slice sb js.length scb, .slice sw jw.length scw, b16 j3, b16 j4] 45)))
  have HX8 := Lib.hid (heap_alloc_new wE (.cells #[b8 j1, b8 j2, .slice sb js.length scb, .slice sw jw.length scw, b16 j3, b16 j4] 45))
  have HEC2 := Lib.hid (HEC.out _ K8.out)
  have C3 := fun i => cell_of_row _ _ i _ _ _ K8.out.box.h3
  clear hE hb HEC K7
  go_wp2_with fail
  refine HEC2.out.mono ?_
  rintro e wF ⟨tw, tcw, tb, tcb, rfl, hE, hb, -⟩
  rw [HEQ2.out.1] at hE ⊢
  rw [HEQ2.out.2]
  have K9 := Lib.hid ((K8.out.on hb).on (below_one wF (.cells #[b8 j1, b8 j2, .slice tb js.length tcb, .slice tw jw.length tcw, b16 j3, b16 j4] 45)))
  have HE9 := Lib.hid ((HE8.out.below hb).below (below_one wF (.cells #[b8 j1, b8 j2, .slice tb js.length tcb, .slice tw jw.length tcw, b16 j3, b16 j4] 45)))
  have HF9 := Lib.hid (RepAt.below hE (below_one wF (.cells #[b8 j1, b8 j2, .slice tb js.length tcb, .slice tw jw.length tcw, b16 j3, b16 j4] 45)))
  have HX9 := Lib.hid (row_on (row_on HX8.out hb) (below_one wF (.cells #[b8 j1, b8 j2, .slice tb js.length tcb, .slice tw jw.length tcw, b16 j3, b16 j4] 45)))
  have HY9 := Lib.hid (heap_alloc_new wF (.cells #[b8 j1, b8 j2, .slice tb js.length tcb, .slice tw jw.length tcw, b16 j3, b16 j4] 45))
  have HWR := Lib.hid (Wrong_at F X (wF.alloc (.cells #[b8 j1, b8 j2, .slice tb js.length tcb, .slice tw jw.length tcw, b16 j3, b16 j4] 45)))
  clear hE hb HEC2 K8 HE8 HX8 C3 HEQ2
  go_wp2_with fail
  refine HWR.out.mono ?_
  rintro e wG ⟨rfl, hb⟩
  have K10 := Lib.hid ((K9.out.on hb).on (below_one wG (.cells #[b8 (F % 128), b8 X, .slice none 0 0, .slice none 0 0, .int .u16 0, .int .u16 0] 45)))
  have HE10 := Lib.hid ((HE9.out.below hb).below (below_one wG (.cells #[b8 (F % 128), b8 X, .slice none 0 0, .slice none 0 0, .int .u16 0, .int .u16 0] 45)))
  have HF10 := Lib.hid ((HF9.out.below hb).below (below_one wG (.cells #[b8 (F % 128), b8 X, .slice none 0 0, .slice none 0 0, .int .u16 0, .int .u16 0] 45)))
  have HX10 := Lib.hid (row_on (row_on HX9.out hb) (below_one wG (.cells #[b8 (F % 128), b8 X, .slice none 0 0, .slice none 0 0, .int .u16 0, .int .u16 0] 45)))
  have HY10 := Lib.hid (row_on (row_on HY9.out hb) (below_one wG (.cells #[b8 (F % 128), b8 X, .slice none 0 0, .slice none 0 0, .int .u16 0, .int .u16 0] 45)))
  have HZ10 := Lib.hid (heap_alloc_new wG (.cells #[b8 (F % 128), b8 X, .slice none 0 0, .slice none 0 0, .int .u16 0, .int .u16 0] 45))
  clear hb HWR K9 HE9 HF9 HX9 HY9
  go_wp2_with fail
  have hF8 : ((F % 128).toNat : Int) = (F.toNat : Int) % 128 := by rw [UInt8.toNat_mod]; rfl
  rw [← hF8]
  clear hF8
  generalize wG.alloc (.cells #[b8 (F % 128), b8 X, .slice none 0 0, .slice none 0 0, .int .u16 0, .int .u16 0] 45) = V0 at *
  have hR0 := RepAt.up HR.out K10.out.box.below (Nat.le_refl _)
  have hA0 := HA.out.below K10.out.box.below
  have HR1 : ∀ W, Below V0.heap.size V0 W → W.heap[w.heap.size]? = some (.cells #[b8 f1, b8 x1, .slice ab bs.length cb, .slice aw ws.length cw, b16 a1, b16 m1] 45 (0, 0)) := fun W h => (K10.out.on h).box.h1
  have HR3 : ∀ W, Below V0.heap.size V0 W → W.heap[w.heap.size + 2]? = some (.cells #[b8 f3, b16 a3, b16 m3, b16 t3, .slice qw us.length ew, .slice qb es.length eb] 26 (0, 0)) := fun W h => (K10.out.on h).box.h3
  have HR4 : ∀ W, Below V0.heap.size V0 W → W.heap[wE.heap.size]? = some (.cells #[b8 j1, b8 j2, .slice sb js.length scb, .slice sw jw.length scw, b16 j3, b16 j4] 45 (0, 0)) := fun W h => row_on HX10.out h
  have HR5 : ∀ W, Below V0.heap.size V0 W → W.heap[wF.heap.size]? = some (.cells #[b8 j1, b8 j2, .slice tb js.length tcb, .slice tw jw.length tcw, b16 j3, b16 j4] 45 (0, 0)) := fun W h => row_on HY10.out h
  have HR6 : ∀ W, Below V0.heap.size V0 W → W.heap[wG.heap.size]? = some (.cells #[b8 (F % 128), b8 X, .slice none 0 0, .slice none 0 0, .int .u16 0, .int .u16 0] 45 (0, 0)) := fun W h => row_on HZ10.out h
  obtain ⟨ff, hff⟩ : ∃ x, fitsN ⟨f3, a3, m3, t3, us, es⟩ ⟨f1, x1, bs, ws, a1, m1⟩ = x := ⟨_, rfl⟩
  obtain ⟨gg, hgg⟩ : ∃ x, fitsN ⟨f3, a3, m3, t3, us, es⟩ ⟨j1, j2, js, jw, j3, j4⟩ = x := ⟨_, rfl⟩
  have HQ1 := Lib.hid (fun W (h : Below V0.heap.size V0 W) => says_on h (rRSame_any _ _ _ _ _ _ _ _ _ _ W (HE10.out.below h) (HF10.out.below h)) (decide_eq_true rfl))
  have HQ2 := Lib.hid (fun W (h : Below V0.heap.size V0 W) => says_on h (Fits_any ⟨f3, a3, m3, t3, us, es⟩ qw ew qb eb ⟨f1, x1, bs, ws, a1, m1⟩ aw cw ab cb W (hA0.below h) (hR0.below h) HWA.out.1 HWA.out.2) hff)
  have HQ3 := Lib.hid (fun W (h : Below V0.heap.size V0 W) => says_on h (rFits_any ⟨f3, a3, m3, t3, us, es⟩ qw ew qb eb ⟨f1, x1, bs, ws, a1, m1⟩ aw cw ab cb W (hA0.below h) (hR0.below h) HWA.out.1 HWA.out.2 HW.out.1 HW.out.2) hff)
  have HQ4 := Lib.hid (fun W (h : Below V0.heap.size V0 W) => says_on h (Fits_any ⟨f3, a3, m3, t3, us, es⟩ qw ew qb eb ⟨j1, j2, js, jw, j3, j4⟩ tw tcw tb tcb W (hA0.below h) (HF10.out.below h) HWA.out.1 HWA.out.2) hgg)
  have HQ5 := Lib.hid (fun W (h : Below V0.heap.size V0 W) => says_on h (rFits_any ⟨f3, a3, m3, t3, us, es⟩ qw ew qb eb ⟨j1, j2, js, jw, j3, j4⟩ tw tcw tb tcb W (hA0.below h) (HF10.out.below h) HWA.out.1 HWA.out.2 HJL.out.1 HJL.out.2) hgg)
  have HQ6 := Lib.hid (fun W (h : Below V0.heap.size V0 W) => says_on h (rRSame_any (wrongN F X) (wrongN F X) none 0 none 0 none 0 none 0 W (RepAt.nil rfl rfl) (RepAt.nil rfl rfl)) (decide_eq_true rfl))
  have HQ7 := Lib.hid (fun W (h : Below V0.heap.size V0 W) => says_on h (rawake_any W) rfl)
  clear hR0 hA0 hff hgg HE10 HF10 HX10 HY10 HZ10
  refine region_quiet (fun W => Below V0.heap.size V0 W) (by kernel_rfl) (by kernel_rfl) (Below.refl _ _).drew ?_
  intro ops Q' hops hQ
  refine QP.val (.bool ez) (by rfl) (fun wC hC => runq_move rfl (by kernel_rfl)) ?_
  refine QP.val (.bool ez) (by rfl) (fun wC hC => runq_move rfl (by kernel_rfl)) ?_
  refine QP.val (.bool true) (by rfl) (fun wC hC => runq_eqlb (p := ez) (q := ez) Try.underlying4 rfl (by kernel_rfl) (by kernel_rfl) (by cases ez <;> rfl)) ?_
  refine QP.val (.bool true) (by rfl) (fun wC hC => runq_move rfl (by kernel_rfl)) ?_
  refine QP.val (.agg #[b8 j1, b8 j2, .slice sb js.length scb, .slice sw jw.length scw, b16 j3, b16 j4]) (wantedq (j := 3) (d := 136) (want := true) (b := true) rfl (by rw [hops.out]; rfl) (by kernel_rfl) rfl) (fun wC hC => runq_load_row (t := 45) (g := wE.heap.size) (fr := (0, 0)) rfl (by kernel_rfl) (HR4 wC hC) Try.underlying45 rfl (by kernel_rfl)) ?_
  refine QP.val (.agg #[b8 j1, b8 j2, .slice tb js.length tcb, .slice tw jw.length tcw, b16 j3, b16 j4]) (wantedq (j := 3) (d := 136) (want := true) (b := true) rfl (by rw [hops.out]; rfl) (by kernel_rfl) rfl) (fun wC hC => runq_load_row (t := 45) (g := wF.heap.size) (fr := (0, 0)) rfl (by kernel_rfl) (HR5 wC hC) Try.underlying45 rfl (by kernel_rfl)) ?_
  refine QP.call 32 #[.agg #[b8 j1, b8 j2, .slice sb js.length scb, .slice sw jw.length scw, b16 j3, b16 j4], .agg #[b8 j1, b8 j2, .slice tb js.length tcb, .slice tw jw.length tcw, b16 j3, b16 j4]] (.bool true) (wantedq (j := 3) (d := 136) (want := true) (b := true) rfl (by rw [hops.out]; rfl) (by kernel_rfl) rfl) (fun wC hC => (congrArg (fun s => Sem.run Try.prog s wC) (by kernel_rfl)).trans (enters_rrs #[.agg #[b8 j1, b8 j2, .slice sb js.length scb, .slice sw jw.length scw, b16 j3, b16 j4], .agg #[b8 j1, b8 j2, .slice tb js.length tcb, .slice tw jw.length tcw, b16 j3, b16 j4]] wC)) (fun wC hC => HQ1.out wC hC) ?_
  refine QP.val (.bool true) (by rfl) (fun wC hC => runq_pick (c := true) rfl (by kernel_rfl) (by kernel_rfl)) ?_
  refine QP.val (.bool true) (by rfl) (fun wC hC => runq_move rfl (by kernel_rfl)) ?_
  refine QP.val (.agg #[b8 f3, b16 a3, b16 m3, b16 t3, .slice qw us.length ew, .slice qb es.length eb]) (wantedq (j := 8) (d := 141) (want := true) (b := true) rfl (by rw [hops.out]; rfl) (by kernel_rfl) rfl) (fun wC hC => runq_load_row (t := 26) (g := w.heap.size + 2) (fr := (0, 0)) rfl (by kernel_rfl) (HR3 wC hC) Try.underlying26 rfl (by kernel_rfl)) ?_
  refine QP.val (.agg #[b8 f1, b8 x1, .slice ab bs.length cb, .slice aw ws.length cw, b16 a1, b16 m1]) (wantedq (j := 8) (d := 141) (want := true) (b := true) rfl (by rw [hops.out]; rfl) (by kernel_rfl) rfl) (fun wC hC => runq_load_row (t := 45) (g := w.heap.size) (fr := (0, 0)) rfl (by kernel_rfl) (HR1 wC hC) Try.underlying45 rfl (by kernel_rfl)) ?_
  refine QP.call 36 #[.agg #[b8 f3, b16 a3, b16 m3, b16 t3, .slice qw us.length ew, .slice qb es.length eb], .agg #[b8 f1, b8 x1, .slice ab bs.length cb, .slice aw ws.length cw, b16 a1, b16 m1]] (.bool ff) (wantedq (j := 8) (d := 141) (want := true) (b := true) rfl (by rw [hops.out]; rfl) (by kernel_rfl) rfl) (fun wC hC => (congrArg (fun s => Sem.run Try.prog s wC) (by kernel_rfl)).trans (enters_fits #[.agg #[b8 f3, b16 a3, b16 m3, b16 t3, .slice qw us.length ew, .slice qb es.length eb], .agg #[b8 f1, b8 x1, .slice ab bs.length cb, .slice aw ws.length cw, b16 a1, b16 m1]] wC)) (fun wC hC => HQ2.out wC hC) ?_
  refine QP.val (.agg #[b8 f3, b16 a3, b16 m3, b16 t3, .slice qw us.length ew, .slice qb es.length eb]) (wantedq (j := 8) (d := 141) (want := true) (b := true) rfl (by rw [hops.out]; rfl) (by kernel_rfl) rfl) (fun wC hC => runq_load_row (t := 26) (g := w.heap.size + 2) (fr := (0, 0)) rfl (by kernel_rfl) (HR3 wC hC) Try.underlying26 rfl (by kernel_rfl)) ?_
  refine QP.val (.agg #[b8 f1, b8 x1, .slice ab bs.length cb, .slice aw ws.length cw, b16 a1, b16 m1]) (wantedq (j := 8) (d := 141) (want := true) (b := true) rfl (by rw [hops.out]; rfl) (by kernel_rfl) rfl) (fun wC hC => runq_load_row (t := 45) (g := w.heap.size) (fr := (0, 0)) rfl (by kernel_rfl) (HR1 wC hC) Try.underlying45 rfl (by kernel_rfl)) ?_
  refine QP.call 37 #[.agg #[b8 f3, b16 a3, b16 m3, b16 t3, .slice qw us.length ew, .slice qb es.length eb], .agg #[b8 f1, b8 x1, .slice ab bs.length cb, .slice aw ws.length cw, b16 a1, b16 m1]] (.bool ff) (wantedq (j := 8) (d := 141) (want := true) (b := true) rfl (by rw [hops.out]; rfl) (by kernel_rfl) rfl) (fun wC hC => (congrArg (fun s => Sem.run Try.prog s wC) (by kernel_rfl)).trans (enters_rfits #[.agg #[b8 f3, b16 a3, b16 m3, b16 t3, .slice qw us.length ew, .slice qb es.length eb], .agg #[b8 f1, b8 x1, .slice ab bs.length cb, .slice aw ws.length cw, b16 a1, b16 m1]] wC)) (fun wC hC => HQ3.out wC hC) ?_
  refine QP.val (.bool true) (wantedq (j := 8) (d := 141) (want := true) (b := true) rfl (by rw [hops.out]; rfl) (by kernel_rfl) rfl) (fun wC hC => runq_eqlb (p := ff) (q := ff) Try.underlying4 rfl (by kernel_rfl) (by kernel_rfl) (by cases ff <;> rfl)) ?_
  refine QP.val (.bool true) (by rfl) (fun wC hC => runq_pick (c := true) rfl (by kernel_rfl) (by kernel_rfl)) ?_
  refine QP.val (.bool true) (by rfl) (fun wC hC => runq_move rfl (by kernel_rfl)) ?_
  refine QP.val (.agg #[b8 f3, b16 a3, b16 m3, b16 t3, .slice qw us.length ew, .slice qb es.length eb]) (wantedq (j := 17) (d := 150) (want := true) (b := true) rfl (by rw [hops.out]; rfl) (by kernel_rfl) rfl) (fun wC hC => runq_load_row (t := 26) (g := w.heap.size + 2) (fr := (0, 0)) rfl (by kernel_rfl) (HR3 wC hC) Try.underlying26 rfl (by kernel_rfl)) ?_
  refine QP.val (.agg #[b8 j1, b8 j2, .slice tb js.length tcb, .slice tw jw.length tcw, b16 j3, b16 j4]) (wantedq (j := 17) (d := 150) (want := true) (b := true) rfl (by rw [hops.out]; rfl) (by kernel_rfl) rfl) (fun wC hC => runq_load_row (t := 45) (g := wF.heap.size) (fr := (0, 0)) rfl (by kernel_rfl) (HR5 wC hC) Try.underlying45 rfl (by kernel_rfl)) ?_
  refine QP.call 36 #[.agg #[b8 f3, b16 a3, b16 m3, b16 t3, .slice qw us.length ew, .slice qb es.length eb], .agg #[b8 j1, b8 j2, .slice tb js.length tcb, .slice tw jw.length tcw, b16 j3, b16 j4]] (.bool gg) (wantedq (j := 17) (d := 150) (want := true) (b := true) rfl (by rw [hops.out]; rfl) (by kernel_rfl) rfl) (fun wC hC => (congrArg (fun s => Sem.run Try.prog s wC) (by kernel_rfl)).trans (enters_fits #[.agg #[b8 f3, b16 a3, b16 m3, b16 t3, .slice qw us.length ew, .slice qb es.length eb], .agg #[b8 j1, b8 j2, .slice tb js.length tcb, .slice tw jw.length tcw, b16 j3, b16 j4]] wC)) (fun wC hC => HQ4.out wC hC) ?_
  refine QP.val (.agg #[b8 f3, b16 a3, b16 m3, b16 t3, .slice qw us.length ew, .slice qb es.length eb]) (wantedq (j := 17) (d := 150) (want := true) (b := true) rfl (by rw [hops.out]; rfl) (by kernel_rfl) rfl) (fun wC hC => runq_load_row (t := 26) (g := w.heap.size + 2) (fr := (0, 0)) rfl (by kernel_rfl) (HR3 wC hC) Try.underlying26 rfl (by kernel_rfl)) ?_
  refine QP.val (.agg #[b8 j1, b8 j2, .slice tb js.length tcb, .slice tw jw.length tcw, b16 j3, b16 j4]) (wantedq (j := 17) (d := 150) (want := true) (b := true) rfl (by rw [hops.out]; rfl) (by kernel_rfl) rfl) (fun wC hC => runq_load_row (t := 45) (g := wF.heap.size) (fr := (0, 0)) rfl (by kernel_rfl) (HR5 wC hC) Try.underlying45 rfl (by kernel_rfl)) ?_
  refine QP.call 37 #[.agg #[b8 f3, b16 a3, b16 m3, b16 t3, .slice qw us.length ew, .slice qb es.length eb], .agg #[b8 j1, b8 j2, .slice tb js.length tcb, .slice tw jw.length tcw, b16 j3, b16 j4]] (.bool gg) (wantedq (j := 17) (d := 150) (want := true) (b := true) rfl (by rw [hops.out]; rfl) (by kernel_rfl) rfl) (fun wC hC => (congrArg (fun s => Sem.run Try.prog s wC) (by kernel_rfl)).trans (enters_rfits #[.agg #[b8 f3, b16 a3, b16 m3, b16 t3, .slice qw us.length ew, .slice qb es.length eb], .agg #[b8 j1, b8 j2, .slice tb js.length tcb, .slice tw jw.length tcw, b16 j3, b16 j4]] wC)) (fun wC hC => HQ5.out wC hC) ?_
  refine QP.val (.bool true) (wantedq (j := 17) (d := 150) (want := true) (b := true) rfl (by rw [hops.out]; rfl) (by kernel_rfl) rfl) (fun wC hC => runq_eqlb (p := gg) (q := gg) Try.underlying4 rfl (by kernel_rfl) (by kernel_rfl) (by cases gg <;> rfl)) ?_
  refine QP.val (.bool true) (by rfl) (fun wC hC => runq_pick (c := true) rfl (by kernel_rfl) (by kernel_rfl)) ?_
  refine QP.val (.bool true) (by rfl) (fun wC hC => runq_move rfl (by kernel_rfl)) ?_
  refine QP.val (.agg #[b8 (F % 128), b8 X, .slice none 0 0, .slice none 0 0, .int .u16 0, .int .u16 0]) (wantedq (j := 26) (d := 159) (want := true) (b := true) rfl (by rw [hops.out]; rfl) (by kernel_rfl) rfl) (fun wC hC => runq_load_row (t := 45) (g := wG.heap.size) (fr := (0, 0)) rfl (by kernel_rfl) (HR6 wC hC) Try.underlying45 rfl (by kernel_rfl)) ?_
  refine QP.val (b8 F) (wantedq (j := 26) (d := 159) (want := true) (b := true) rfl (by rw [hops.out]; rfl) (by kernel_rfl) rfl) (fun wC hC => runq_move rfl (by kernel_rfl)) ?_
  refine QP.val (b8 (F % 128)) (wantedq (j := 26) (d := 159) (want := true) (b := true) rfl (by rw [hops.out]; rfl) (by kernel_rfl) rfl) (fun wC hC => runq_rem8 rfl (by kernel_rfl) (by kernel_rfl)) ?_
  refine QP.val (b8 X) (wantedq (j := 26) (d := 159) (want := true) (b := true) rfl (by rw [hops.out]; rfl) (by kernel_rfl) rfl) (fun wC hC => runq_move rfl (by kernel_rfl)) ?_
  refine QP.val (.agg #[b8 (F % 128), b8 X, .slice none 0 0, .slice none 0 0, .int .u16 0, .int .u16 0]) (wantedq (j := 26) (d := 159) (want := true) (b := true) rfl (by rw [hops.out]; rfl) (by kernel_rfl) rfl) (fun wC hC => by kernel_rfl) ?_
  refine QP.call 32 #[.agg #[b8 (F % 128), b8 X, .slice none 0 0, .slice none 0 0, .int .u16 0, .int .u16 0], .agg #[b8 (F % 128), b8 X, .slice none 0 0, .slice none 0 0, .int .u16 0, .int .u16 0]] (.bool true) (wantedq (j := 26) (d := 159) (want := true) (b := true) rfl (by rw [hops.out]; rfl) (by kernel_rfl) rfl) (fun wC hC => (congrArg (fun s => Sem.run Try.prog s wC) (by kernel_rfl)).trans (enters_rrs #[.agg #[b8 (F % 128), b8 X, .slice none 0 0, .slice none 0 0, .int .u16 0, .int .u16 0], .agg #[b8 (F % 128), b8 X, .slice none 0 0, .slice none 0 0, .int .u16 0, .int .u16 0]] wC)) (fun wC hC => HQ6.out wC hC) ?_
  refine QP.val (.bool true) (by rfl) (fun wC hC => runq_pick (c := true) rfl (by kernel_rfl) (by kernel_rfl)) ?_
  refine QP.val (.bool true) (by rfl) (fun wC hC => runq_move rfl (by kernel_rfl)) ?_
  refine QP.call 24 #[] (.bool true) (wantedq (j := 34) (d := 167) (want := true) (b := true) rfl (by rw [hops.out]; rfl) (by kernel_rfl) rfl) (fun wC hC => (congrArg (fun s => Sem.run Try.prog s wC) (by kernel_rfl)).trans (enters_rawake #[] wC)) (fun wC hC => HQ7.out wC hC) ?_
  refine QP.val (.bool true) (by rfl) (fun wC hC => runq_pick (c := true) rfl (by kernel_rfl) (by kernel_rfl)) ?_
  refine QP.val (.bool true) (by rfl) (fun wC hC => runq_assign rfl (by kernel_rfl)) ?_
  refine QP.nil (hQ.out _ fun W9 hC => ?_)
  simp only [Act.put, List.setIfInBounds_toArray, List.set_cons_succ, List.set_cons_zero]
  clear hops hQ HR1 HR3 HR4 HR5 HR6 HQ1 HQ2 HQ3 HQ4 HQ5 HQ6 HQ7
  have K11 := Lib.hid (K10.out.on hC)
  clear hC K10
  go_wp2_with fail
  go_ret
  exact Says.mk K11.out.box.below
end Go.Proofs.Ytenfcpdoingdeaa.RefW
