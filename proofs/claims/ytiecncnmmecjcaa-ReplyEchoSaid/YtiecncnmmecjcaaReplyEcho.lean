/- What a request that writes is answered with. -/
import Derived.Test.YtiecncnmmecjcaaReplyClone
import Derived.Test.YtiecncnmmecjcaaAskKit
open Go.RowKit
namespace Go.Proofs.Ytiecncnmmecjcaa.ReplyW
open AskM ReplyM AskW Mem

def echoN (a : Req) : Option Rep :=
  if rightN a = false then none
  else if a.fn.toNat = 5 then some ⟨a.fn, 0, a.bits, [], a.at_, 0⟩
  else if a.fn.toNat = 6 then some ⟨a.fn, 0, [], a.words, a.at_, 0⟩
  else if a.fn.toNat = 15 ∨ a.fn.toNat = 16 then some ⟨a.fn, 0, [], [], a.at_, a.many⟩
  else none

set_option maxRecDepth 100000 in
set_option maxHeartbeats 8000000 in
theorem Echo_any (a : Req) (aw : Option Addr) (cw : Nat) (ab : Option Addr) (cb : Nat) (w : World) (hA : AskAt w w.heap.size a aw cw ab cb) (hnw : a.words.length ≤ 1000000) (hnb : a.bits.length ≤ 1000000) :
    Calls Try.prog 38 #[askV a aw cw ab cb] w (ReadR (echoN a) w) := by
  have HA := Lib.hid hA
  clear hA
  obtain ⟨f1, a1, m1, t1, ws, bs⟩ := a
  simp only at hnw hnb
  have hB0 : Boxed w #[b8 f1, b16 a1, b16 m1, b16 t1, .slice aw ws.length cw, .slice ab bs.length cb] zeroRC 26 48 ((w.alloc (.cells #[b8 f1, b16 a1, b16 m1, b16 t1, .slice aw ws.length cw, .slice ab bs.length cb] 26)).alloc (.cells zeroRC 48)) := Below.refl _ _
  have HB := Lib.hid hB0
  clear hB0
  have hf8 := f1.toNat_lt
  obtain ⟨z1, hz1⟩ : ∃ z, rightN ⟨f1, a1, m1, t1, ws, bs⟩ = z := ⟨_, rfl⟩
  have HZ1 := Lib.hid hz1
  cases z1
  · have HF : Hid (echoN ⟨f1, a1, m1, t1, ws, bs⟩ = none) := Lib.hid (by unfold echoN; rw [if_pos hz1])
    clear hz1
    go_enter Try.func38, Try.ntmps38
    go_wp2_with fail
    refine (Right_any ⟨f1, a1, m1, t1, ws, bs⟩ aw cw ab cb _ hnw hnb).mono ?_
    rw [HZ1.out]
    rintro e w1 ⟨rfl, hb⟩
    have HB1 : Hid (Boxed w #[b8 f1, b16 a1, b16 m1, b16 t1, .slice aw ws.length cw, .slice ab bs.length cb] zeroRC 26 48 w1) := Lib.hid (HB.out.on (hb.mono HB.out.size))
    clear hb
    have C1 := HB1.out.one
    go_wp2_with (refine wpList_store_row rfl 48 (.tmp 2) (.tmp 7) rfl (w.heap.size + 1) zeroRC rfl rfl 48 zeroRC HB1.out.h2 (by kernel_rfl) (by kernel_rfl) (by kernel_rfl) ?_)
    have hBS := below_setRow HB1.out.below (show w.heap.size ≤ w.heap.size + 1 by omega) zeroRC
    exact bodyPost_ret (v := .tuple #[.agg zeroRC, .bool false]) (results_cell_row_tmp rfl _ _ (w.heap.size + 1) 48 _ (0, 0) _ rfl (setRow_heap _ _ _ _ _ _ HB1.out.h2) Try.underlying48 rfl (by kernel_rfl) _ rfl) rfl (readR_none HF.out hBS)
  have hz1' : ¬ rightN ⟨f1, a1, m1, t1, ws, bs⟩ = false := by rw [hz1]; simp
  by_cases g5 : f1.toNat = 5
  · have HF : Hid (echoN ⟨f1, a1, m1, t1, ws, bs⟩ = some ⟨f1, 0, bs, [], a1, 0⟩) := Lib.hid (by unfold echoN; rw [if_neg hz1', if_pos g5])
    have k5 : ((f1.toNat : Int) == 5) = true := by simp; omega
    clear hz1 hz1' g5
    go_enter Try.func38, Try.ntmps38
    go_wp2_with fail
    refine (Right_any ⟨f1, a1, m1, t1, ws, bs⟩ aw cw ab cb _ hnw hnb).mono ?_
    rw [HZ1.out]
    rintro e w1 ⟨rfl, hb⟩
    have HB1 : Hid (Boxed w #[b8 f1, b16 a1, b16 m1, b16 t1, .slice aw ws.length cw, .slice ab bs.length cb] zeroRC 26 48 w1) := Lib.hid (HB.out.on (hb.mono HB.out.size))
    clear hb
    have C1 := HB1.out.one
    go_wp2_with fail
    have hk0 : w1.cell? ⟨w.heap.size, 0, none⟩ = some (b8 f1) := HB1.out.one 0
    have hk1 : w1.cell? ⟨w.heap.size, 1, none⟩ = some (b16 a1) := HB1.out.one 1
    have hk2 : w1.cell? ⟨w.heap.size, 5, none⟩ = some (.slice ab bs.length cb) := HB1.out.one 5
    have hk0d : w1.drew.cell? ⟨w.heap.size, 0, none⟩ = some (b8 f1) := hk0
    have hk1d : w1.drew.cell? ⟨w.heap.size, 1, none⟩ = some (b16 a1) := hk1
    have hk2d : w1.drew.cell? ⟨w.heap.size, 5, none⟩ = some (.slice ab bs.length cb) := hk2
    have hz : w.heap.size + 1 < w1.heap.size := by have := HB1.out.size; omega
    have hzb : w.heap.size < w1.heap.size := by omega
    have HRB : Hid (RepBlock w1.drew (w.heap.size + 1)) := Lib.hid ⟨_, _, _, _, _, _, HB1.out.h2⟩
    have HUN := Lib.hid (CloneB_any ab bs.length cb bs w1.drew (show Sl _ w1.drew w1.drew.heap.size ab bs.length cb bs from ((HA.out.bits.below HB1.out.below (Nat.le_refl _)).more HB1.out.below.size)) (by omega))
    clear C1
    have hne : ¬ w.heap.size + 1 = w.heap.size := by omega
    have hne2 : ¬ w.heap.size = w.heap.size + 1 := by omega
    go_region_held3 (fun w' => w'.cell? ⟨w.heap.size, 0, none⟩ = some (b8 f1) ∧ w'.cell? ⟨w.heap.size, 1, none⟩ = some (b16 a1) ∧ w'.cell? ⟨w.heap.size, 5, none⟩ = some (.slice ab bs.length cb))
      (first
        | with_reducible exact ⟨hk0, hk1, hk2⟩
        | with_reducible exact ⟨hk0d, hk1d, hk2d⟩
        | with_reducible exact ⟨hq0, hq1, hq2⟩
        | go_keep)
      (first
        | (go_at_call 68; (with_reducible refine HUN.out.mono ?_); rintro e w2 ⟨a2, c2, rfl, hsu, hb2, hxu⟩; have HSU := Lib.hid hsu; have HXU := Lib.hid hxu; clear hsu hxu; have hq0 := (hb2.cell (p := ⟨w.heap.size, 0, none⟩) hzb).trans hk0d; have hq1 := (hb2.cell (p := ⟨w.heap.size, 1, none⟩) hzb).trans hk1d; have hq2 := (hb2.cell (p := ⟨w.heap.size, 5, none⟩) hzb).trans hk2d; have HRB1 := Lib.hid (HRB.out.below hb2 hz); have hz0 := HRB1.out.frozen; obtain ⟨v0, hv0⟩ := HRB1.out.cell 0 (by omega); obtain ⟨v1, hv1⟩ := HRB1.out.cell 1 (by omega); obtain ⟨v2, hv2⟩ := HRB1.out.cell 2 (by omega); obtain ⟨v3, hv3⟩ := HRB1.out.cell 3 (by omega); obtain ⟨v4, hv4⟩ := HRB1.out.cell 4 (by omega); obtain ⟨v5, hv5⟩ := HRB1.out.cell 5 (by omega)))
    have HS := set_end HRB1.out (HB1.out.below.drew.trans (hb2.mono HB1.out.below.drew.size)) (show w.heap.size ≤ w.heap.size + 1 by omega) (b8 f1) (.int .u8 0) (.slice a2 bs.length c2) (.slice none 0 0) (b16 a1) (.int .u16 0)
    have HSB := setAll_sl (g := w.heap.size + 1) (f := b8 f1) (b := .int .u8 0) (m := .slice a2 bs.length c2) (t := .slice none 0 0) (ws := b16 a1) (bs := .int .u16 0) HSU.out (fun y hy => by have := HXU.out y hy; simp at this; omega)
    unfold setAll at HS HSB
    have HS2 := Lib.hid (And.intro HS HSB)
    clear HS HSB hk0 hk1 hk2 hk0d hk1d hk2d hq0 hq1 hq2 hz0 hv0 hv1 hv2 hv3 hv4 hv5
    go_wp2_with fail
    exact bodyPost_ret (v := .tuple #[.agg #[b8 f1, .int .u8 0, .slice a2 bs.length c2, .slice none 0 0, b16 a1, .int .u16 0], .bool true]) (results_cell_row_tmp rfl _ _ (w.heap.size + 1) 48 _ (0, 0) _ rfl HS2.out.1.1 Try.underlying48 rfl (by kernel_rfl) _ rfl) rfl
      (readR_some (q := ⟨f1, 0, bs, [], a1, 0⟩) (aw := none) (cw := 0) (ab := a2) (cb := c2) HF.out rfl ⟨Sl.none_, HS2.out.2⟩ HS2.out.1.2 (fun y hy => by rcases hy with hy | hy <;> first | (cases hy; done) | (have := HXU.out y hy; simp at this; omega)))
  by_cases g6 : f1.toNat = 6
  · have HF : Hid (echoN ⟨f1, a1, m1, t1, ws, bs⟩ = some ⟨f1, 0, [], ws, a1, 0⟩) := Lib.hid (by unfold echoN; rw [if_neg hz1', if_neg g5, if_pos g6])
    have k5 : ((f1.toNat : Int) == 5) = false := by simp; omega
    have k6 : ((f1.toNat : Int) == 6) = true := by simp; omega
    clear hz1 hz1' g5 g6
    go_enter Try.func38, Try.ntmps38
    go_wp2_with fail
    refine (Right_any ⟨f1, a1, m1, t1, ws, bs⟩ aw cw ab cb _ hnw hnb).mono ?_
    rw [HZ1.out]
    rintro e w1 ⟨rfl, hb⟩
    have HB1 : Hid (Boxed w #[b8 f1, b16 a1, b16 m1, b16 t1, .slice aw ws.length cw, .slice ab bs.length cb] zeroRC 26 48 w1) := Lib.hid (HB.out.on (hb.mono HB.out.size))
    clear hb
    have C1 := HB1.out.one
    go_wp2_with fail
    have hk0 : w1.cell? ⟨w.heap.size, 0, none⟩ = some (b8 f1) := HB1.out.one 0
    have hk1 : w1.cell? ⟨w.heap.size, 1, none⟩ = some (b16 a1) := HB1.out.one 1
    have hk2 : w1.cell? ⟨w.heap.size, 4, none⟩ = some (.slice aw ws.length cw) := HB1.out.one 4
    have hk0d : w1.drew.cell? ⟨w.heap.size, 0, none⟩ = some (b8 f1) := hk0
    have hk1d : w1.drew.cell? ⟨w.heap.size, 1, none⟩ = some (b16 a1) := hk1
    have hk2d : w1.drew.cell? ⟨w.heap.size, 4, none⟩ = some (.slice aw ws.length cw) := hk2
    have hz : w.heap.size + 1 < w1.heap.size := by have := HB1.out.size; omega
    have hzb : w.heap.size < w1.heap.size := by omega
    have HRB : Hid (RepBlock w1.drew (w.heap.size + 1)) := Lib.hid ⟨_, _, _, _, _, _, HB1.out.h2⟩
    have HUN := Lib.hid (CloneW_any aw ws.length cw ws w1.drew (show Sl _ w1.drew w1.drew.heap.size aw ws.length cw ws from ((HA.out.words.below HB1.out.below (Nat.le_refl _)).more HB1.out.below.size)) (by omega))
    clear C1
    have hne : ¬ w.heap.size + 1 = w.heap.size := by omega
    have hne2 : ¬ w.heap.size = w.heap.size + 1 := by omega
    go_region_held3 (fun w' => w'.cell? ⟨w.heap.size, 0, none⟩ = some (b8 f1) ∧ w'.cell? ⟨w.heap.size, 1, none⟩ = some (b16 a1) ∧ w'.cell? ⟨w.heap.size, 4, none⟩ = some (.slice aw ws.length cw))
      (first
        | with_reducible exact ⟨hk0, hk1, hk2⟩
        | with_reducible exact ⟨hk0d, hk1d, hk2d⟩
        | with_reducible exact ⟨hq0, hq1, hq2⟩
        | go_keep)
      (first
        | (go_at_call 69; (with_reducible refine HUN.out.mono ?_); rintro e w2 ⟨a2, c2, rfl, hsu, hb2, hxu⟩; have HSU := Lib.hid hsu; have HXU := Lib.hid hxu; clear hsu hxu; have hq0 := (hb2.cell (p := ⟨w.heap.size, 0, none⟩) hzb).trans hk0d; have hq1 := (hb2.cell (p := ⟨w.heap.size, 1, none⟩) hzb).trans hk1d; have hq2 := (hb2.cell (p := ⟨w.heap.size, 4, none⟩) hzb).trans hk2d; have HRB1 := Lib.hid (HRB.out.below hb2 hz); have hz0 := HRB1.out.frozen; obtain ⟨v0, hv0⟩ := HRB1.out.cell 0 (by omega); obtain ⟨v1, hv1⟩ := HRB1.out.cell 1 (by omega); obtain ⟨v2, hv2⟩ := HRB1.out.cell 2 (by omega); obtain ⟨v3, hv3⟩ := HRB1.out.cell 3 (by omega); obtain ⟨v4, hv4⟩ := HRB1.out.cell 4 (by omega); obtain ⟨v5, hv5⟩ := HRB1.out.cell 5 (by omega)))
    have HS := set_end HRB1.out (HB1.out.below.drew.trans (hb2.mono HB1.out.below.drew.size)) (show w.heap.size ≤ w.heap.size + 1 by omega) (b8 f1) (.int .u8 0) (.slice none 0 0) (.slice a2 ws.length c2) (b16 a1) (.int .u16 0)
    have HSB := setAll_sl (g := w.heap.size + 1) (f := b8 f1) (b := .int .u8 0) (m := .slice none 0 0) (t := .slice a2 ws.length c2) (ws := b16 a1) (bs := .int .u16 0) HSU.out (fun y hy => by have := HXU.out y hy; simp at this; omega)
    unfold setAll at HS HSB
    have HS2 := Lib.hid (And.intro HS HSB)
    clear HS HSB hk0 hk1 hk2 hk0d hk1d hk2d hq0 hq1 hq2 hz0 hv0 hv1 hv2 hv3 hv4 hv5
    go_wp2_with fail
    exact bodyPost_ret (v := .tuple #[.agg #[b8 f1, .int .u8 0, .slice none 0 0, .slice a2 ws.length c2, b16 a1, .int .u16 0], .bool true]) (results_cell_row_tmp rfl _ _ (w.heap.size + 1) 48 _ (0, 0) _ rfl HS2.out.1.1 Try.underlying48 rfl (by kernel_rfl) _ rfl) rfl
      (readR_some (q := ⟨f1, 0, [], ws, a1, 0⟩) (aw := a2) (cw := c2) (ab := none) (cb := 0) HF.out rfl ⟨HS2.out.2, Sl.none_⟩ HS2.out.1.2 (fun y hy => by rcases hy with hy | hy <;> first | (cases hy; done) | (have := HXU.out y hy; simp at this; omega)))
  by_cases g15 : f1.toNat = 15
  · have HF : Hid (echoN ⟨f1, a1, m1, t1, ws, bs⟩ = some ⟨f1, 0, [], [], a1, m1⟩) := Lib.hid (by unfold echoN; rw [if_neg hz1', if_neg g5, if_neg g6, if_pos (.inl g15)])
    have k5 : ((f1.toNat : Int) == 5) = false := by simp; omega
    have k6 : ((f1.toNat : Int) == 6) = false := by simp; omega
    have k15 : ((f1.toNat : Int) == 15) = true := by simp; omega
    clear hz1 hz1' g5 g6 g15
    go_enter Try.func38, Try.ntmps38
    go_wp2_with fail
    refine (Right_any ⟨f1, a1, m1, t1, ws, bs⟩ aw cw ab cb _ hnw hnb).mono ?_
    rw [HZ1.out]
    rintro e w1 ⟨rfl, hb⟩
    have HB1 : Hid (Boxed w #[b8 f1, b16 a1, b16 m1, b16 t1, .slice aw ws.length cw, .slice ab bs.length cb] zeroRC 26 48 w1) := Lib.hid (HB.out.on (hb.mono HB.out.size))
    clear hb
    have C1 := HB1.out.one
    go_wp2_with (refine wpList_store_row rfl 48 (.tmp 2) (.tmp 39) rfl (w.heap.size + 1) #[b8 f1, .int .u8 0, .slice none 0 0, .slice none 0 0, b16 a1, b16 m1] rfl rfl 48 zeroRC HB1.out.h2 (by kernel_rfl) (by kernel_rfl) (by kernel_rfl) ?_)
    have hBS := below_setRow HB1.out.below (show w.heap.size ≤ w.heap.size + 1 by omega) #[b8 f1, .int .u8 0, .slice none 0 0, .slice none 0 0, b16 a1, b16 m1]
    exact bodyPost_ret (v := .tuple #[.agg #[b8 f1, .int .u8 0, .slice none 0 0, .slice none 0 0, b16 a1, b16 m1], .bool true]) (results_cell_row_tmp rfl _ _ (w.heap.size + 1) 48 _ (0, 0) _ rfl (setRow_heap _ _ _ _ _ _ HB1.out.h2) Try.underlying48 rfl (by kernel_rfl) _ rfl) rfl (readR_some (q := ⟨f1, 0, [], [], a1, m1⟩) (aw := none) (cw := 0) (ab := none) (cb := 0) HF.out rfl (RepAt.nil rfl rfl) hBS (fun x hx => by rcases hx with hx | hx <;> cases hx))
  by_cases g16 : f1.toNat = 16
  · have HF : Hid (echoN ⟨f1, a1, m1, t1, ws, bs⟩ = some ⟨f1, 0, [], [], a1, m1⟩) := Lib.hid (by unfold echoN; rw [if_neg hz1', if_neg g5, if_neg g6, if_pos (.inr g16)])
    have k5 : ((f1.toNat : Int) == 5) = false := by simp; omega
    have k6 : ((f1.toNat : Int) == 6) = false := by simp; omega
    have k15 : ((f1.toNat : Int) == 15) = false := by simp; omega
    have k16 : ((f1.toNat : Int) == 16) = true := by simp; omega
    clear hz1 hz1' g5 g6 g15 g16
    go_enter Try.func38, Try.ntmps38
    go_wp2_with fail
    refine (Right_any ⟨f1, a1, m1, t1, ws, bs⟩ aw cw ab cb _ hnw hnb).mono ?_
    rw [HZ1.out]
    rintro e w1 ⟨rfl, hb⟩
    have HB1 : Hid (Boxed w #[b8 f1, b16 a1, b16 m1, b16 t1, .slice aw ws.length cw, .slice ab bs.length cb] zeroRC 26 48 w1) := Lib.hid (HB.out.on (hb.mono HB.out.size))
    clear hb
    have C1 := HB1.out.one
    go_wp2_with (refine wpList_store_row rfl 48 (.tmp 2) (.tmp 39) rfl (w.heap.size + 1) #[b8 f1, .int .u8 0, .slice none 0 0, .slice none 0 0, b16 a1, b16 m1] rfl rfl 48 zeroRC HB1.out.h2 (by kernel_rfl) (by kernel_rfl) (by kernel_rfl) ?_)
    have hBS := below_setRow HB1.out.below (show w.heap.size ≤ w.heap.size + 1 by omega) #[b8 f1, .int .u8 0, .slice none 0 0, .slice none 0 0, b16 a1, b16 m1]
    exact bodyPost_ret (v := .tuple #[.agg #[b8 f1, .int .u8 0, .slice none 0 0, .slice none 0 0, b16 a1, b16 m1], .bool true]) (results_cell_row_tmp rfl _ _ (w.heap.size + 1) 48 _ (0, 0) _ rfl (setRow_heap _ _ _ _ _ _ HB1.out.h2) Try.underlying48 rfl (by kernel_rfl) _ rfl) rfl (readR_some (q := ⟨f1, 0, [], [], a1, m1⟩) (aw := none) (cw := 0) (ab := none) (cb := 0) HF.out rfl (RepAt.nil rfl rfl) hBS (fun x hx => by rcases hx with hx | hx <;> cases hx))
  have HF : Hid (echoN ⟨f1, a1, m1, t1, ws, bs⟩ = none) := Lib.hid (by unfold echoN; rw [if_neg hz1', if_neg g5, if_neg g6, if_neg (fun h => h.elim g15 g16)])
  have k5 : ((f1.toNat : Int) == 5) = false := by simp; omega
  have k6 : ((f1.toNat : Int) == 6) = false := by simp; omega
  have k15 : ((f1.toNat : Int) == 15) = false := by simp; omega
  have k16 : ((f1.toNat : Int) == 16) = false := by simp; omega
  clear hz1 hz1' g5 g6 g15 g16
  go_enter Try.func38, Try.ntmps38
  go_wp2_with fail
  refine (Right_any ⟨f1, a1, m1, t1, ws, bs⟩ aw cw ab cb _ hnw hnb).mono ?_
  rw [HZ1.out]
  rintro e w1 ⟨rfl, hb⟩
  have HB1 : Hid (Boxed w #[b8 f1, b16 a1, b16 m1, b16 t1, .slice aw ws.length cw, .slice ab bs.length cb] zeroRC 26 48 w1) := Lib.hid (HB.out.on (hb.mono HB.out.size))
  clear hb
  have C1 := HB1.out.one
  go_wp2_with (refine wpList_store_row rfl 48 (.tmp 2) (.tmp 40) rfl (w.heap.size + 1) zeroRC rfl rfl 48 zeroRC HB1.out.h2 (by kernel_rfl) (by kernel_rfl) (by kernel_rfl) ?_)
  have hBS := below_setRow HB1.out.below (show w.heap.size ≤ w.heap.size + 1 by omega) zeroRC
  exact bodyPost_ret (v := .tuple #[.agg zeroRC, .bool false]) (results_cell_row_tmp rfl _ _ (w.heap.size + 1) 48 _ (0, 0) _ rfl (setRow_heap _ _ _ _ _ _ HB1.out.h2) Try.underlying48 rfl (by kernel_rfl) _ rfl) rfl (readR_none HF.out hBS)
end Go.Proofs.Ytiecncnmmecjcaa.ReplyW
