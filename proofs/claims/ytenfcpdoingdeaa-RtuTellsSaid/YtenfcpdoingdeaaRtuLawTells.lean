/- Frames beside the document's own answer: any bytes within, any bytes as a frame, those of requests, replies within them. -/
import Derived.Test.YtenfcpdoingdeaaRefRtu
import Derived.Test.YtenfcpdoingdeaaRefSame
import Derived.Test.YtenfcpdoingdeaaRtuT
import Derived.Test.YtenfcpdoingdeaaAskKit
import Derived.Test.YtenfcpdoingdeaaQuiet
import Derived.Test.YtenfcpdoingdeaaStep
open Go.RowKit
namespace Go.Proofs.Ytenfcpdoingdeaa.RefW
open CrcW RtuM RtuW AskM AskW ReplyM ReplyW Mem

theorem enters_rrs (args : Array Value) (w : World) : (callFunc 32 args).run Try.prog w = .ok (.enter 32 args) w := by
  have h := Try.func32
  unfold callFunc
  rw [Sem.run_bind]
  simp only [run_program, Result.andThen_ok, h]
  have e1 : (Try.f32.name == "runtime.NumGoroutine") = false := by kernel_rfl
  have e2 : Try.f32.body.isNone = false := by kernel_rfl
  rw [e1, e2]
  rfl
theorem enters_qawake (args : Array Value) (w : World) : (callFunc 38 args).run Try.prog w = .ok (.enter 38 args) w := by
  have h := Try.func38
  unfold callFunc
  rw [Sem.run_bind]
  simp only [run_program, Result.andThen_ok, h]
  have e1 : (Try.f38.name == "runtime.NumGoroutine") = false := by kernel_rfl
  have e2 : Try.f38.body.isNone = false := by kernel_rfl
  rw [e1, e2]
  rfl
theorem b8_one : ∀ x : UInt8, (b8 x).oneCell' = true := fun _ => rfl
theorem says_on {W0 W : World} {f : FuncId} {args : Array Value} {b x : Bool} (h : Below W0.heap.size W0 W) (hc : Calls Try.prog f args W (Says (.bool b) W)) (hx : b = x) :
    Calls Try.prog f args W fun e W' => e = .returned (.bool x) ∧ Below W0.heap.size W0 W' :=
  hc.mono fun _ _ ⟨he, hb⟩ => ⟨by rw [he, hx], h.trans (hb.mono h.size)⟩
/-- Bytes and an error's number. -/
def Cuts2 (k : Nat) (x : List UInt8) (w : World) (e : Ending) (w' : World) : Prop :=
  ∃ a c, e = .returned (.tuple #[.slice a x.length c, .int .i64 (k : Int)]) ∧ Sl b8 w' w'.heap.size a x.length c x ∧ Below w.heap.size w w'
theorem cuts2_own {r : Nat × List UInt8} {k : Nat} {x : List UInt8} {w w' : World} {e : Ending} (hr : r = (k, x)) (h : OwnGives r w e w') : Cuts2 k x w e w' := by
  subst hr
  obtain ⟨v, rfl, ho, hb⟩ := h
  obtain ⟨a, c, rfl, hs⟩ := Sl.of_own ho
  exact ⟨a, c, rfl, hs, hb⟩
theorem cuts2_cut {r : Nat × List UInt8} {k : Nat} {x : List UInt8} {w w' : World} {e : Ending} (hr : r = (k, x)) (h : CutGives r w e w') : Cuts2 k x w e w' := by
  subst hr; exact h
/-- A unit, what is within, and an error's number. -/
def Opens2 (k : Nat) (v : UInt8) (x : List UInt8) (w : World) (e : Ending) (w' : World) : Prop :=
  ∃ a c, e = .returned (.tuple #[b8 v, .slice a x.length c, .int .i64 (k : Int)]) ∧ Sl b8 w' w'.heap.size a x.length c x ∧ Below w.heap.size w w'
theorem opens2_gives {r : Nat × UInt8 × List UInt8} {k : Nat} {v : UInt8} {x : List UInt8} {w w' : World} {e : Ending} (hr : r = (k, v, x)) (h : OpenGives r w e w') : Opens2 k v x w e w' := by
  subst hr
  obtain ⟨a, c, he, hs, hb, _⟩ := h
  exact ⟨a, c, he, hs, hb⟩
theorem opens2_g {r : Nat × UInt8 × List UInt8} {k : Nat} {v : UInt8} {x : List UInt8} {w w' : World} {e : Ending} (hr : r = (k, v, x)) (h : OpenG r w e w') : Opens2 k v x w e w' := by
  subst hr; exact h
/-- A reply, and an error's number. -/
def Reps2 (k : Nat) (q : Rep) (w : World) (e : Ending) (w' : World) : Prop :=
  ∃ aw cw ab cb, e = .returned (.tuple #[repV q aw cw ab cb, .int .i64 (k : Int)]) ∧ RepAt w' w'.heap.size q aw cw ab cb ∧ Below w.heap.size w w'
theorem reps2 {r : Nat × Option Rep} {k : Nat} {q : Rep} {w w' : World} {e : Ending} (hk : r.1 = k) (hq : r.2.getD zeroR = q) (h : ReplyGives r w e w') : Reps2 k q w e w' := by
  subst hk hq
  obtain ⟨aw, cw, ab, cb, he, hs, hb, _⟩ := h
  exact ⟨aw, cw, ab, cb, he, hs, hb⟩
/-- One box. -/
def Boxed1 (w : World) (c1 : Array Value) (W : World) : Prop := Below (w.heap.size + 1) (w.alloc (.cells c1 26)) W
section
variable {w W W' : World} {c1 : Array Value}
theorem Boxed1.size (h : Boxed1 w c1 W) : w.heap.size + 1 ≤ W.heap.size := by have := Below.size h; simp at this; omega
theorem Boxed1.on (h : Boxed1 w c1 W) (h2 : Below W.heap.size W W') : Boxed1 w c1 W' := Below.trans h (h2.mono h.size)
theorem Boxed1.h1 (h : Boxed1 w c1 W) : W.heap[w.heap.size]? = some (.cells c1 26 (0, 0)) := by
  rw [Below.block h _ (by omega)]
  exact heap_alloc_new w _
theorem Boxed1.below (h : Boxed1 w c1 W) : Below w.heap.size w W :=
  ((Below.refl _ _).alloc (Nat.le_refl _) _).trans (Below.mono h (by omega))
end
theorem below_one (w : World) (o : Obj) : Below w.heap.size w (w.alloc o) := (Below.refl _ _).alloc (Nat.le_refl _) o
theorem row_onn {w w' : World} {g : Nat} {o : Obj} (h : w.heap[g]? = some o) (hb : Below w.heap.size w w') : w'.heap[g]? = some o := (hb.block g (Array.getElem?_eq_some_iff.1 h).1).trans h
theorem Sl.onn {α : Type} {f : α → Value} {w w' : World} {n c : Nat} {a : Option Addr} {l : List α} (h : Sl f w w.heap.size a n c l) (hb : Below w.heap.size w w') : Sl f w' w'.heap.size a n c l := (h.below hb (Nat.le_refl _)).more hb.size
/-- The arguments, and the copy of the bytes, all along. -/
structure TU (w W : World) (c1 : Array Value) (p : Option Addr) (n c : Nat) (m : List UInt8) (b : Option Addr) (k d : Nat) (l : List UInt8) (i : Option Addr) (d2 : Nat) : Prop where
  box : Boxed1 w c1 W
  pp : Sl b8 W W.heap.size p n c m
  bb : Sl b8 W W.heap.size b k d l
  ii : Sl b8 W W.heap.size i k d2 l
theorem TU.on {w W W' : World} {c1 : Array Value} {p b i : Option Addr} {n c k d d2 : Nat} {m l : List UInt8} (h : TU w W c1 p n c m b k d l i d2) (hb : Below W.heap.size W W') : TU w W' c1 p n c m b k d l i d2 :=
  ⟨h.box.on hb, Sl.onn h.pp hb, Sl.onn h.bb hb, Sl.onn h.ii hb⟩
set_option maxRecDepth 100000 in
set_option maxHeartbeats 40000000 in
theorem RtuTells_walk (y0 : Nat) (p : Option Addr) (n c : Nat) (m : List UInt8) (b : Option Addr) (k d : Nat) (l : List UInt8) (a : Req) (qw : Option Addr) (ew : Nat) (qb : Option Addr) (eb : Nat) (w : World)
    (b0 : y0 < 256) (hP : Sl b8 w w.heap.size p n c m) (hS : Sl b8 w w.heap.size b k d l) (hA : AskAt w w.heap.size a qw ew qb eb) :
    Calls Try.prog 5 #[.int .u8 (y0 : Int), .slice p n c, .slice b k d, askV a qw ew qb eb] w (Says (.bool true) w) := by
  obtain ⟨u, rfl⟩ : ∃ u : UInt8, y0 = u.toNat := ⟨UInt8.ofNat y0, by simp; omega⟩
  have hn := len_le hP
  have hk := len_le hS
  have l5 := len_le hA.words
  have l6 := len_le hA.bits
  have HP := Lib.hid hP
  have HS := Lib.hid hS
  have HA := Lib.hid hA
  clear hP hS hA b0
  obtain ⟨f3, a3, m3, t3, us, es⟩ := a
  simp only at l5 l6
  have HB0 : Hid (Boxed1 w #[b8 f3, b16 a3, b16 m3, b16 t3, .slice qw us.length ew, .slice qb es.length eb] (w.alloc (.cells #[b8 f3, b16 a3, b16 m3, b16 t3, .slice qw us.length ew, .slice qb es.length eb] 26))) := Lib.hid (Below.refl _ _)
  by_cases h1 : 300 < n
  · have s1 : decide (300 < (n : Int)) = true := by simp; omega
    clear h1
    go_enter Try.func5, Try.ntmps5
    go_wp2_with fail
    refine (qawake_any _).mono ?_
    rintro e w1 ⟨rfl, hb⟩
    go_wp2_with fail
    go_ret
    exact Says.mk (HB0.out.below.trans (hb.mono HB0.out.below.size))
  have s1 : decide (300 < (n : Int)) = false := by simp; omega
  by_cases h2 : 300 < k
  · have s2 : decide (300 < (k : Int)) = true := by simp; omega
    clear h1 h2
    go_enter Try.func5, Try.ntmps5
    go_wp2_with fail
    refine (qawake_any _).mono ?_
    rintro e w1 ⟨rfl, hb⟩
    go_wp2_with fail
    go_ret
    exact Says.mk (HB0.out.below.trans (hb.mono HB0.out.below.size))
  have s2 : decide (300 < (k : Int)) = false := by simp; omega
  by_cases h3 : us.length ≤ 200 ∧ es.length ≤ 2100
  case neg =>
    have hx := Lib.hid (few_false h3)
    clear h1 h2 h3
    go_enter Try.func5, Try.ntmps5
    go_wp2_with fail
    refine (Few_any _ _ _ _ _ _ _ l5 l6).mono ?_
    rintro e w1 ⟨rfl, rfl⟩
    rw [hx.out]
    go_wp2_with fail
    refine (qawake_any _).mono ?_
    rintro e w1 ⟨rfl, hb⟩
    go_wp2_with fail
    go_ret
    exact Says.mk (HB0.out.below.trans (hb.mono HB0.out.below.size))
  have hx3 := Lib.hid (few_true h3.1 h3.2)
  have HWA := Lib.hid (And.intro (show us.length ≤ 1000000 by omega) (show es.length ≤ 1000000 by omega))
  obtain ⟨i0, hi0, hz0, hz1, hz2⟩ := info_parts AskW.info8
  have hz2' : i0.bytes = 1 := hz2
  have HI := Lib.hid (And.intro hi0 (And.intro hz0 (And.intro hz1 hz2')))
  obtain ⟨k1, x1, hfr⟩ : ∃ k x, frameR u m = (k, x) := ⟨_, _, rfl⟩
  obtain ⟨k2, v2, x2, hop⟩ : ∃ k v x, openR l = (k, v, x) := ⟨_, _, _, rfl⟩
  obtain ⟨k3, x3, hak⟩ : ∃ k x, askR u ⟨f3, a3, m3, t3, us, es⟩ = (k, x) := ⟨_, _, rfl⟩
  obtain ⟨k4, hr1⟩ : ∃ k, (replyR u l).1 = k := ⟨_, rfl⟩
  obtain ⟨q, hr2⟩ : ∃ q, (replyR u l).2.getD zeroR = q := ⟨_, rfl⟩
  have D1 : Hid (∀ W i d2, TU w W #[b8 f3, b16 a3, b16 m3, b16 t3, .slice qw us.length ew, .slice qb es.length eb] p n c m b k d l i d2 → Calls Try.prog 39 #[b8 u, .slice p n c] W (Cuts2 k1 x1 W)) := Lib.hid (fun W i d2 h => (Bytes_own u p n c m W h.pp).mono fun _ _ => cuts2_own hfr)
  have D2 : Hid (∀ W i d2, TU w W #[b8 f3, b16 a3, b16 m3, b16 t3, .slice qw us.length ew, .slice qb es.length eb] p n c m b k d l i d2 → Calls Try.prog 40 #[b8 u, .slice p n c] W (Cuts2 k1 x1 W)) := Lib.hid (fun W i d2 h => (rqBytes_any u p n c m W h.pp).mono fun _ _ => cuts2_cut hfr)
  have D3 : Hid (∀ W i d2, TU w W #[b8 f3, b16 a3, b16 m3, b16 t3, .slice qw us.length ew, .slice qb es.length eb] p n c m b k d l i d2 → Calls Try.prog 41 #[.slice i k d2] W (Opens2 k2 v2 x2 W)) := Lib.hid (fun W i d2 h => (RtuW.Parse_any i k d2 l W h.ii).mono fun _ _ => opens2_gives hop)
  have D4 : Hid (∀ W i d2, TU w W #[b8 f3, b16 a3, b16 m3, b16 t3, .slice qw us.length ew, .slice qb es.length eb] p n c m b k d l i d2 → Calls Try.prog 42 #[.slice b k d] W (Opens2 k2 v2 x2 W)) := Lib.hid (fun W i d2 h => (rqParse_any b k d l W h.bb).mono fun _ _ => opens2_g hop)
  have D5 : Hid (∀ W i d2, TU w W #[b8 f3, b16 a3, b16 m3, b16 t3, .slice qw us.length ew, .slice qb es.length eb] p n c m b k d l i d2 → Calls Try.prog 43 #[b8 u, askV ⟨f3, a3, m3, t3, us, es⟩ qw ew qb eb] W (Cuts2 k3 x3 W)) := Lib.hid (fun W i d2 h => (Ask_own u _ qw ew qb eb W (HA.out.below h.box.below) HWA.out.1 HWA.out.2).mono fun _ _ => cuts2_own hak)
  have D6 : Hid (∀ W i d2, TU w W #[b8 f3, b16 a3, b16 m3, b16 t3, .slice qw us.length ew, .slice qb es.length eb] p n c m b k d l i d2 → Calls Try.prog 44 #[b8 u, askV ⟨f3, a3, m3, t3, us, es⟩ qw ew qb eb] W (Cuts2 k3 x3 W)) := Lib.hid (fun W i d2 h => (rqAsk_any u _ qw ew qb eb W (HA.out.below h.box.below) HWA.out.1 HWA.out.2).mono fun _ _ => cuts2_cut hak)
  have D7 : Hid (∀ W i d2, TU w W #[b8 f3, b16 a3, b16 m3, b16 t3, .slice qw us.length ew, .slice qb es.length eb] p n c m b k d l i d2 → Calls Try.prog 45 #[b8 u, .slice i k d2] W (Reps2 k4 q W)) := Lib.hid (fun W i d2 h => (Reply_any u i k d2 l W h.ii).mono fun _ _ => reps2 hr1 hr2)
  have D8 : Hid (∀ W i d2, TU w W #[b8 f3, b16 a3, b16 m3, b16 t3, .slice qw us.length ew, .slice qb es.length eb] p n c m b k d l i d2 → Calls Try.prog 46 #[b8 u, .slice b k d] W (Reps2 k4 q W)) := Lib.hid (fun W i d2 h => (rqReply_any u b k d l W h.bb).mono fun _ _ => reps2 hr1 hr2)
  obtain ⟨g1, g2, rs, qs, g3, g4⟩ := q
  have e1 : ((k1 : Int) != (k1 : Int)) = false := by simp
  have e2 : ((k2 : Int) != (k2 : Int)) = false := by simp
  have e3 : ((v2.toNat : Int) != (v2.toNat : Int)) = false := by simp
  have hk3 : k ≤ 300 := by omega
  clear h1 h2 h3 hi0 hz0 hz1 hz2 hz2' hfr hop hak hr1 hr2 HA
  go_enter Try.func5, Try.ntmps5
  go_wp2_with fail
  refine (Few_any _ _ _ _ _ _ _ l5 l6).mono ?_
  rintro e w1 ⟨rfl, rfl⟩
  rw [hx3.out]
  generalize w.alloc (.cells #[b8 f3, b16 a3, b16 m3, b16 t3, .slice qw us.length ew, .slice qb es.length eb] 26) = w0 at *
  go_wp2_with (at_builtin; refine wpList_append_list (f := b8) b8_one rfl (.tmp 45) (.tmp 46) 27 rfl w0.heap.size 5 i0 (.int .u8 0) 1 Try.underlying27 HI.out.1 HI.out.2.1 HI.out.2.2.1 HI.out.2.2.2 rfl (.slice (some ⟨w0.heap.size, 0, none⟩) 0 0) 0 [] rfl (World.ownsRow_made w0 #[] 0 (Nat.le_refl _) (by unfold maxLen; omega) rfl) b k d rfl (B := w0.heap.size) (((HS.out.below HB0.out.below (Nat.le_refl _)).more HB0.out.below.size).alloc (Nat.le_refl _) _) (by unfold maxLen; omega) (by omega) (by simp) ?_; intro vin win hown hgrow; simp only [Nat.zero_add, List.nil_append] at hown; obtain ⟨i, d2, rfl, hsp⟩ := Sl.of_own hown; have hbin : Below w0.heap.size w0 win := Grew.below ((Below.refl _ _).alloc (Nat.le_refl _) _) hgrow (by simp) (fun k hk => by simp [Value.ownBlock] at hk; omega); have K1 := Lib.hid (show TU w win #[b8 f3, b16 a3, b16 m3, b16 t3, .slice qw us.length ew, .slice qb es.length eb] p n c m b k d l i d2 from ⟨HB0.out.on hbin, ((HP.out.below HB0.out.below (Nat.le_refl _)).more HB0.out.below.size |>.below hbin (Nat.le_refl _)).more hbin.size, ((HS.out.below HB0.out.below (Nat.le_refl _)).more HB0.out.below.size |>.below hbin (Nat.le_refl _)).more hbin.size, hsp⟩); have C1 := fun i => cell_of_row _ _ i _ _ _ K1.out.box.h1; clear hown hgrow hsp hbin)
  have K1b := Lib.hid K1.out
  clear HP HS HB0 HI
  refine (D1.out _ _ _ K1.out).mono ?_
  rintro e w2 ⟨p1, c1, rfl, hs, hb⟩
  have K2 := Lib.hid (K1.out.on hb)
  have HS2 := Lib.hid hs
  clear hs hb K1 K1b C1
  have C1 := fun i => cell_of_row _ _ i _ _ _ K2.out.box.h1
  go_wp2_with fail
  refine (D2.out _ _ _ K2.out).mono ?_
  rintro e w3 ⟨p2, c2, rfl, hs, hb⟩
  have K3 := Lib.hid (K2.out.on hb)
  have HS3 := Lib.hid (And.intro (Sl.onn HS2.out hb) hs)
  clear hs hb K2 HS2 C1
  have C1 := fun i => cell_of_row _ _ i _ _ _ K3.out.box.h1
  go_wp2_with fail
  refine (D3.out _ _ _ K3.out).mono ?_
  rintro e w4 ⟨p3, c3, rfl, hs, hb⟩
  have K4 := Lib.hid (K3.out.on hb)
  have HS4 := Lib.hid (And.intro (And.intro (Sl.onn HS3.out.1 hb) (Sl.onn HS3.out.2 hb)) hs)
  clear hs hb K3 HS3 C1
  have C1 := fun i => cell_of_row _ _ i _ _ _ K4.out.box.h1
  go_wp2_with fail
  refine (D4.out _ _ _ K4.out).mono ?_
  rintro e w5 ⟨p4, c4, rfl, hs, hb⟩
  have K5 := Lib.hid (K4.out.on hb)
  have HS5 := Lib.hid (And.intro (And.intro (Sl.onn HS4.out.1.1 hb) (Sl.onn HS4.out.1.2 hb)) (And.intro (Sl.onn HS4.out.2 hb) hs))
  clear hs hb K4 HS4 C1
  have C1 := fun i => cell_of_row _ _ i _ _ _ K5.out.box.h1
  go_wp2_with fail
  refine (lowsame_on HS5.out.1.1 HS5.out.1.2 (decide_eq_true rfl) _ (Below.refl _ _)).mono ?_
  rintro e w6 ⟨rfl, hb⟩
  have K6 := Lib.hid (K5.out.on hb)
  have HS6 := Lib.hid (And.intro (Sl.onn HS5.out.2.1 hb) (Sl.onn HS5.out.2.2 hb))
  clear hb K5 HS5 C1
  have C1 := fun i => cell_of_row _ _ i _ _ _ K6.out.box.h1
  go_wp2_with fail
  refine (lowsame_on HS6.out.1 HS6.out.2 (decide_eq_true rfl) _ (Below.refl _ _)).mono ?_
  rintro e w7 ⟨rfl, hb⟩
  have K7 := Lib.hid (K6.out.on hb)
  clear hb K6 HS6 C1
  have C1 := fun i => cell_of_row _ _ i _ _ _ K7.out.box.h1
  go_wp2_with fail
  refine (D5.out _ _ _ K7.out).mono ?_
  rintro e w8 ⟨p5, c5, rfl, hs, hb⟩
  have K8 := Lib.hid (K7.out.on hb)
  have HS8 := Lib.hid hs
  clear hs hb K7 C1
  have C1 := fun i => cell_of_row _ _ i _ _ _ K8.out.box.h1
  go_wp2_with fail
  refine (D6.out _ _ _ K8.out).mono ?_
  rintro e w9 ⟨p6, c6, rfl, hs, hb⟩
  have K9 := Lib.hid (K8.out.on hb)
  have HS9 := Lib.hid (And.intro (Sl.onn HS8.out hb) hs)
  clear hs hb K8 HS8 C1
  go_wp2_with fail
  refine (D7.out _ _ _ K9.out).mono ?_
  rintro e wA ⟨pw, pcw, pb, pcb, rfl, hP, hb⟩
  have KA := Lib.hid ((K9.out.on hb).on (below_one wA (.cells #[b8 g1, b8 g2, .slice pb rs.length pcb, .slice pw qs.length pcw, b16 g3, b16 g4] 45)))
  have HSA := Lib.hid (And.intro (Sl.onn (Sl.onn HS9.out.1 hb) (below_one wA (.cells #[b8 g1, b8 g2, .slice pb rs.length pcb, .slice pw qs.length pcw, b16 g3, b16 g4] 45))) (Sl.onn (Sl.onn HS9.out.2 hb) (below_one wA (.cells #[b8 g1, b8 g2, .slice pb rs.length pcb, .slice pw qs.length pcw, b16 g3, b16 g4] 45))))
  have HPA := Lib.hid (RepAt.below hP (below_one wA (.cells #[b8 g1, b8 g2, .slice pb rs.length pcb, .slice pw qs.length pcw, b16 g3, b16 g4] 45)))
  have HXA := Lib.hid (heap_alloc_new wA (.cells #[b8 g1, b8 g2, .slice pb rs.length pcb, .slice pw qs.length pcw, b16 g3, b16 g4] 45))
  have HDA := Lib.hid (D8.out _ _ _ KA.out)
  clear hP hb K9 HS9
  go_wp2_with fail
  refine HDA.out.mono ?_
  rintro e wB ⟨rw_, rcw, rb, rcb, rfl, hP, hb⟩
  have KB := Lib.hid ((KA.out.on hb).on (below_one wB (.cells #[b8 g1, b8 g2, .slice rb rs.length rcb, .slice rw_ qs.length rcw, b16 g3, b16 g4] 45)))
  have HSB := Lib.hid (And.intro (Sl.onn (Sl.onn HSA.out.1 hb) (below_one wB (.cells #[b8 g1, b8 g2, .slice rb rs.length rcb, .slice rw_ qs.length rcw, b16 g3, b16 g4] 45))) (Sl.onn (Sl.onn HSA.out.2 hb) (below_one wB (.cells #[b8 g1, b8 g2, .slice rb rs.length rcb, .slice rw_ qs.length rcw, b16 g3, b16 g4] 45))))
  have HPB := Lib.hid ((HPA.out.below hb).below (below_one wB (.cells #[b8 g1, b8 g2, .slice rb rs.length rcb, .slice rw_ qs.length rcw, b16 g3, b16 g4] 45)))
  have HQB := Lib.hid (RepAt.below hP (below_one wB (.cells #[b8 g1, b8 g2, .slice rb rs.length rcb, .slice rw_ qs.length rcw, b16 g3, b16 g4] 45)))
  have HXB := Lib.hid (row_onn (row_onn HXA.out hb) (below_one wB (.cells #[b8 g1, b8 g2, .slice rb rs.length rcb, .slice rw_ qs.length rcw, b16 g3, b16 g4] 45)))
  have HYB := Lib.hid (heap_alloc_new wB (.cells #[b8 g1, b8 g2, .slice rb rs.length rcb, .slice rw_ qs.length rcw, b16 g3, b16 g4] 45))
  clear hP hb HDA KA HPA HXA HSA D1 D2 D3 D4 D5 D6 D7 D8
  go_wp2_with fail
  generalize wB.alloc (.cells #[b8 g1, b8 g2, .slice rb rs.length rcb, .slice rw_ qs.length rcw, b16 g3, b16 g4] 45) = V0 at *
  refine (lowsame_on HSB.out.1 HSB.out.2 (decide_eq_true rfl) _ (Below.refl _ _)).mono ?_
  rintro e wC ⟨rfl, hb⟩
  have KC := Lib.hid (KB.out.on hb)
  have HPC := Lib.hid (HPB.out.below hb)
  have HQC := Lib.hid (HQB.out.below hb)
  have C2 := fun i => cell_of_row _ _ i _ _ _ (row_onn HXB.out hb)
  have C3 := fun i => cell_of_row _ _ i _ _ _ (row_onn HYB.out hb)
  clear hb KB HPB HQB HXB HYB HSB
  go_wp2_with fail
  refine (rRSame_any ⟨g1, g2, rs, qs, g3, g4⟩ ⟨g1, g2, rs, qs, g3, g4⟩ _ _ _ _ _ _ _ _ wC HPC.out HQC.out).mono ?_
  rintro e wD ⟨rfl, hb⟩
  have KD := Lib.hid (KC.out.on hb)
  rw [decide_eq_true rfl]
  clear hb KC HPC HQC C2 C3
  go_wp2_with fail
  refine (lowsame_on KD.out.ii KD.out.bb (decide_eq_true rfl) _ (Below.refl _ _)).mono ?_
  rintro e wE ⟨rfl, hb⟩
  have KE := Lib.hid (KD.out.on hb)
  clear hb KD
  go_wp2_with fail
  refine (qawake_any _).mono ?_
  rintro e wF ⟨rfl, hb⟩
  have KF := Lib.hid (KE.out.on hb)
  clear hb KE
  go_wp2_with fail
  go_ret
  exact Says.mk KF.out.box.below
end Go.Proofs.Ytenfcpdoingdeaa.RefW
