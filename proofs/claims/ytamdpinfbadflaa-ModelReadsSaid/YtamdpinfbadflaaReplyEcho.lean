/- ReplyEcho: what was ReplyClone, ReplyEcho, ReplyFitW, ReplyFitE, ReplyAwake. -/
import Derived.Test.YtamdpinfbadflaaReplyFill
import Derived.Test.YtamdpinfbadflaaAskKit
/- Lists cloned. -/
open Go.RowKit
namespace Go.Proofs.Ytamdpinfbadflaa.ReplyW
open AskM ReplyM AskW Mem

theorem bool_one (x : Bool) : (Value.bool x).oneCell' = true := rfl
theorem b16_one' (x : UInt16) : (b16 x).oneCell' = true := rfl
theorem sl_nil {α : Type} {f : α → Value} {w : World} {B n c : Nat} {l : List α} (h : Sl f w B none n c l) : n = 0 ∧ c = 0 ∧ l = [] := by
  have h1 := h.nil_cap
  have h2 := h.nle
  have h3 := h.len
  exact ⟨by omega, h1, List.eq_nil_of_length_eq_zero (by omega)⟩

set_option maxRecDepth 100000 in
theorem CloneB_any (a : Option Addr) (n c : Nat) (l : List Bool) (w : World) (hl : Sl Value.bool w w.heap.size a n c l) (hn : n ≤ 1000000) :
    Calls Try.prog 42 #[.slice a n c] w (Fresh Value.bool l w) := by
  cases a with
  | none =>
    obtain ⟨rfl, rfl, rfl⟩ := sl_nil hl
    have hq : (binOp .eql 25 (.slice none 0 0) (.slice none 0 0)).run Try.prog w = .ok (.bool true) w := by kernel_rfl
    go_enter Try.func42, Try.ntmps42
    go_wp2_with fail
    go_ret
    exact Fresh.mk rfl Sl.none_ (Below.refl _ _) (fun _ h => by cases h)
  | some x =>
    obtain ⟨iB, hB0, hB1, hB2, hB3⟩ := info_parts infoB
    have hq : (binOp .eql 25 (.slice (some x) n c) (.slice none 0 0)).run Try.prog w = .ok (.bool false) w := by kernel_rfl
    have HL := Lib.hid hl
    clear hl
    go_enter Try.func42, Try.ntmps42
    go_wp2_with (at_builtin; go_loud (refine wpList_append_sl (f := Value.bool) bool_one rfl (.tmp 5) (.tmp 6) 25 rfl w.heap.size 4 iB (.bool false) 1 Try.underlying25 hB0 hB1 hB2 hB3 rfl (.slice (some ⟨w.heap.size, 0, none⟩) 0 0) 0 [] rfl (World.ownsRow_made w #[] 0 (Nat.le_refl _) (by unfold maxLen; omega) rfl) (some x) n c rfl (HL.out.alloc (Nat.le_refl _) _) (by unfold maxLen; omega) (by omega) (by simp) ?_; intro v4 w4 hown4 hgrow4; simp only [Nat.zero_add, List.nil_append] at hown4; have HW4 := Lib.hid (((Below.refl w.heap.size w).alloc (Nat.le_refl _) (.cells #[] 4)).grown hgrow4 (by simp) (by simp [Value.ownBlock])); have HO := Lib.hid hown4; clear hown4 hgrow4))
    go_ret
    exact Fresh.of_own HO.out (Nat.le_refl _) HW4.out
set_option maxRecDepth 100000 in
theorem CloneW_any (a : Option Addr) (n c : Nat) (l : List UInt16) (w : World) (hl : Sl b16 w w.heap.size a n c l) (hn : n ≤ 1000000) :
    Calls Try.prog 43 #[.slice a n c] w (Fresh b16 l w) := by
  cases a with
  | none =>
    obtain ⟨rfl, rfl, rfl⟩ := sl_nil hl
    have hq : (binOp .eql 26 (.slice none 0 0) (.slice none 0 0)).run Try.prog w = .ok (.bool true) w := by kernel_rfl
    go_enter Try.func43, Try.ntmps43
    go_wp2_with fail
    go_ret
    exact Fresh.mk rfl Sl.none_ (Below.refl _ _) (fun _ h => by cases h)
  | some x =>
    obtain ⟨iB, hB0, hB1, hB2, hB3⟩ := info_parts info16
    have hq : (binOp .eql 26 (.slice (some x) n c) (.slice none 0 0)).run Try.prog w = .ok (.bool false) w := by kernel_rfl
    have HL := Lib.hid hl
    clear hl
    go_enter Try.func43, Try.ntmps43
    go_wp2_with (at_builtin; go_loud (refine wpList_append_sl (f := b16) b16_one' rfl (.tmp 5) (.tmp 6) 26 rfl w.heap.size 29 iB (.int .u16 0) 2 Try.underlying26 hB0 hB1 hB2 hB3 rfl (.slice (some ⟨w.heap.size, 0, none⟩) 0 0) 0 [] rfl (World.ownsRow_made w #[] 0 (Nat.le_refl _) (by unfold maxLen; omega) rfl) (some x) n c rfl (HL.out.alloc (Nat.le_refl _) _) (by unfold maxLen; omega) (by omega) (by simp) ?_; intro v4 w4 hown4 hgrow4; simp only [Nat.zero_add, List.nil_append] at hown4; have HW4 := Lib.hid (((Below.refl w.heap.size w).alloc (Nat.le_refl _) (.cells #[] 29)).grown hgrow4 (by simp) (by simp [Value.ownBlock])); have HO := Lib.hid hown4; clear hown4 hgrow4))
    go_ret
    exact Fresh.of_own HO.out (Nat.le_refl _) HW4.out
end Go.Proofs.Ytamdpinfbadflaa.ReplyW
/- What a request that writes is answered with. -/
open Go.RowKit
namespace Go.Proofs.Ytamdpinfbadflaa.ReplyW
open AskM ReplyM AskW Mem

def echoN (a : Req) : Option Rep :=
  if rightN a = false then none
  else if a.fn.toNat = 5 then some ⟨a.fn, 0, a.bits, [], a.at_, 0⟩
  else if a.fn.toNat = 6 then some ⟨a.fn, 0, [], a.words, a.at_, 0⟩
  else if a.fn.toNat = 15 ∨ a.fn.toNat = 16 then some ⟨a.fn, 0, [], [], a.at_, a.many⟩
  else none

set_option maxRecDepth 100000 in
set_option maxHeartbeats 8000000 in
theorem Echo_any (a : Req) (aw : Option Addr) (cw : Nat) (ab : Option Addr) (cb : Nat) (w : World) (hA : AskAt w w.heap.size a aw cw ab cb) (hnw : a.words.length ≤ 1000000) (hnb : a.bits.length ≤ 1000000) :
    Calls Try.prog 35 #[askV a aw cw ab cb] w (ReadR (echoN a) w) := by
  have HA := Lib.hid hA
  clear hA
  obtain ⟨f1, a1, m1, t1, ws, bs⟩ := a
  simp only at hnw hnb
  have hB0 : Boxed w #[b8 f1, b16 a1, b16 m1, b16 t1, .slice aw ws.length cw, .slice ab bs.length cb] zeroRC 31 36 ((w.alloc (.cells #[b8 f1, b16 a1, b16 m1, b16 t1, .slice aw ws.length cw, .slice ab bs.length cb] 31)).alloc (.cells zeroRC 36)) := Below.refl _ _
  have HB := Lib.hid hB0
  clear hB0
  have hf8 := f1.toNat_lt
  obtain ⟨z1, hz1⟩ : ∃ z, rightN ⟨f1, a1, m1, t1, ws, bs⟩ = z := ⟨_, rfl⟩
  have HZ1 := Lib.hid hz1
  cases z1
  · have HF : Hid (echoN ⟨f1, a1, m1, t1, ws, bs⟩ = none) := Lib.hid (by unfold echoN; rw [if_pos hz1])
    clear hz1
    go_enter Try.func35, Try.ntmps35
    go_wp2_with fail
    refine (Right_any ⟨f1, a1, m1, t1, ws, bs⟩ aw cw ab cb _ hnw hnb).mono ?_
    rw [HZ1.out]
    rintro e w1 ⟨rfl, hb⟩
    have HB1 : Hid (Boxed w #[b8 f1, b16 a1, b16 m1, b16 t1, .slice aw ws.length cw, .slice ab bs.length cb] zeroRC 31 36 w1) := Lib.hid (HB.out.on (hb.mono HB.out.size))
    clear hb
    have C1 := HB1.out.one
    go_wp2_with (refine wpList_store_row rfl 36 (.tmp 2) (.tmp 7) rfl (w.heap.size + 1) zeroRC rfl rfl 36 zeroRC HB1.out.h2 (by kernel_rfl) (by kernel_rfl) (by kernel_rfl) ?_)
    have hBS := below_setRow HB1.out.below (show w.heap.size ≤ w.heap.size + 1 by omega) zeroRC
    exact bodyPost_ret (v := .tuple #[.agg zeroRC, .bool false]) (results_cell_row_tmp rfl _ _ (w.heap.size + 1) 36 _ (0, 0) _ rfl (setRow_heap _ _ _ _ _ _ HB1.out.h2) Try.underlying36 rfl (by kernel_rfl) _ rfl) rfl (readR_none HF.out hBS)
  have hz1' : ¬ rightN ⟨f1, a1, m1, t1, ws, bs⟩ = false := by rw [hz1]; simp
  by_cases g5 : f1.toNat = 5
  · have HF : Hid (echoN ⟨f1, a1, m1, t1, ws, bs⟩ = some ⟨f1, 0, bs, [], a1, 0⟩) := Lib.hid (by unfold echoN; rw [if_neg hz1', if_pos g5])
    have k5 : ((f1.toNat : Int) == 5) = true := by simp; omega
    clear hz1 hz1' g5
    go_enter Try.func35, Try.ntmps35
    go_wp2_with fail
    refine (Right_any ⟨f1, a1, m1, t1, ws, bs⟩ aw cw ab cb _ hnw hnb).mono ?_
    rw [HZ1.out]
    rintro e w1 ⟨rfl, hb⟩
    have HB1 : Hid (Boxed w #[b8 f1, b16 a1, b16 m1, b16 t1, .slice aw ws.length cw, .slice ab bs.length cb] zeroRC 31 36 w1) := Lib.hid (HB.out.on (hb.mono HB.out.size))
    clear hb
    have C1 := HB1.out.one
    go_wp2_with fail
    have hk0 : w1.cell? ⟨w.heap.size, 0, none⟩ = some (b8 f1) := HB1.out.one 0
    have hk1 : w1.cell? ⟨w.heap.size, 1, none⟩ = some (b16 a1) := HB1.out.one 1
    have hk2 : w1.cell? ⟨w.heap.size, 5, none⟩ = some (.slice ab bs.length cb) := HB1.out.one 5
    have hk0d : w1.drew.cell? ⟨w.heap.size, 0, none⟩ = some (b8 f1) := hk0
    have hk1d : w1.drew.cell? ⟨w.heap.size, 1, none⟩ = some (b16 a1) := hk1
    have hk2d : w1.drew.cell? ⟨w.heap.size, 5, none⟩ = some (.slice ab bs.length cb) := hk2
    have hz : w.heap.size + 1 < w1.heap.size := by have := HB1.out.size; omega
    have hzb : w.heap.size < w1.heap.size := by omega
    have HRB : Hid (RepBlock w1.drew (w.heap.size + 1)) := Lib.hid ⟨_, _, _, _, _, _, HB1.out.h2⟩
    have HUN := Lib.hid (CloneB_any ab bs.length cb bs w1.drew (show Sl _ w1.drew w1.drew.heap.size ab bs.length cb bs from ((HA.out.bits.below HB1.out.below (Nat.le_refl _)).more HB1.out.below.size)) (by omega))
    clear C1
    have hne : ¬ w.heap.size + 1 = w.heap.size := by omega
    have hne2 : ¬ w.heap.size = w.heap.size + 1 := by omega
    go_region_held3 (fun w' => w'.cell? ⟨w.heap.size, 0, none⟩ = some (b8 f1) ∧ w'.cell? ⟨w.heap.size, 1, none⟩ = some (b16 a1) ∧ w'.cell? ⟨w.heap.size, 5, none⟩ = some (.slice ab bs.length cb))
      (first
        | with_reducible exact ⟨hk0, hk1, hk2⟩
        | with_reducible exact ⟨hk0d, hk1d, hk2d⟩
        | with_reducible exact ⟨hq0, hq1, hq2⟩
        | go_keep)
      (first
        | (go_at_call 42; (with_reducible refine HUN.out.mono ?_); rintro e w2 ⟨a2, c2, rfl, hsu, hb2, hxu⟩; have HSU := Lib.hid hsu; have HXU := Lib.hid hxu; clear hsu hxu; have hq0 := (hb2.cell (p := ⟨w.heap.size, 0, none⟩) hzb).trans hk0d; have hq1 := (hb2.cell (p := ⟨w.heap.size, 1, none⟩) hzb).trans hk1d; have hq2 := (hb2.cell (p := ⟨w.heap.size, 5, none⟩) hzb).trans hk2d; have HRB1 := Lib.hid (HRB.out.below hb2 hz); have hz0 := HRB1.out.frozen; obtain ⟨v0, hv0⟩ := HRB1.out.cell 0 (by omega); obtain ⟨v1, hv1⟩ := HRB1.out.cell 1 (by omega); obtain ⟨v2, hv2⟩ := HRB1.out.cell 2 (by omega); obtain ⟨v3, hv3⟩ := HRB1.out.cell 3 (by omega); obtain ⟨v4, hv4⟩ := HRB1.out.cell 4 (by omega); obtain ⟨v5, hv5⟩ := HRB1.out.cell 5 (by omega)))
    have HS := set_end HRB1.out (HB1.out.below.drew.trans (hb2.mono HB1.out.below.drew.size)) (show w.heap.size ≤ w.heap.size + 1 by omega) (b8 f1) (.int .u8 0) (.slice a2 bs.length c2) (.slice none 0 0) (b16 a1) (.int .u16 0)
    have HSB := setAll_sl (g := w.heap.size + 1) (f := b8 f1) (b := .int .u8 0) (m := .slice a2 bs.length c2) (t := .slice none 0 0) (ws := b16 a1) (bs := .int .u16 0) HSU.out (fun y hy => by have := HXU.out y hy; simp at this; omega)
    unfold setAll at HS HSB
    have HS2 := Lib.hid (And.intro HS HSB)
    clear HS HSB hk0 hk1 hk2 hk0d hk1d hk2d hq0 hq1 hq2 hz0 hv0 hv1 hv2 hv3 hv4 hv5
    go_wp2_with fail
    exact bodyPost_ret (v := .tuple #[.agg #[b8 f1, .int .u8 0, .slice a2 bs.length c2, .slice none 0 0, b16 a1, .int .u16 0], .bool true]) (results_cell_row_tmp rfl _ _ (w.heap.size + 1) 36 _ (0, 0) _ rfl HS2.out.1.1 Try.underlying36 rfl (by kernel_rfl) _ rfl) rfl
      (readR_some (q := ⟨f1, 0, bs, [], a1, 0⟩) (aw := none) (cw := 0) (ab := a2) (cb := c2) HF.out rfl ⟨Sl.none_, HS2.out.2⟩ HS2.out.1.2 (fun y hy => by rcases hy with hy | hy <;> first | (cases hy; done) | (have := HXU.out y hy; simp at this; omega)))
  by_cases g6 : f1.toNat = 6
  · have HF : Hid (echoN ⟨f1, a1, m1, t1, ws, bs⟩ = some ⟨f1, 0, [], ws, a1, 0⟩) := Lib.hid (by unfold echoN; rw [if_neg hz1', if_neg g5, if_pos g6])
    have k5 : ((f1.toNat : Int) == 5) = false := by simp; omega
    have k6 : ((f1.toNat : Int) == 6) = true := by simp; omega
    clear hz1 hz1' g5 g6
    go_enter Try.func35, Try.ntmps35
    go_wp2_with fail
    refine (Right_any ⟨f1, a1, m1, t1, ws, bs⟩ aw cw ab cb _ hnw hnb).mono ?_
    rw [HZ1.out]
    rintro e w1 ⟨rfl, hb⟩
    have HB1 : Hid (Boxed w #[b8 f1, b16 a1, b16 m1, b16 t1, .slice aw ws.length cw, .slice ab bs.length cb] zeroRC 31 36 w1) := Lib.hid (HB.out.on (hb.mono HB.out.size))
    clear hb
    have C1 := HB1.out.one
    go_wp2_with fail
    have hk0 : w1.cell? ⟨w.heap.size, 0, none⟩ = some (b8 f1) := HB1.out.one 0
    have hk1 : w1.cell? ⟨w.heap.size, 1, none⟩ = some (b16 a1) := HB1.out.one 1
    have hk2 : w1.cell? ⟨w.heap.size, 4, none⟩ = some (.slice aw ws.length cw) := HB1.out.one 4
    have hk0d : w1.drew.cell? ⟨w.heap.size, 0, none⟩ = some (b8 f1) := hk0
    have hk1d : w1.drew.cell? ⟨w.heap.size, 1, none⟩ = some (b16 a1) := hk1
    have hk2d : w1.drew.cell? ⟨w.heap.size, 4, none⟩ = some (.slice aw ws.length cw) := hk2
    have hz : w.heap.size + 1 < w1.heap.size := by have := HB1.out.size; omega
    have hzb : w.heap.size < w1.heap.size := by omega
    have HRB : Hid (RepBlock w1.drew (w.heap.size + 1)) := Lib.hid ⟨_, _, _, _, _, _, HB1.out.h2⟩
    have HUN := Lib.hid (CloneW_any aw ws.length cw ws w1.drew (show Sl _ w1.drew w1.drew.heap.size aw ws.length cw ws from ((HA.out.words.below HB1.out.below (Nat.le_refl _)).more HB1.out.below.size)) (by omega))
    clear C1
    have hne : ¬ w.heap.size + 1 = w.heap.size := by omega
    have hne2 : ¬ w.heap.size = w.heap.size + 1 := by omega
    go_region_held3 (fun w' => w'.cell? ⟨w.heap.size, 0, none⟩ = some (b8 f1) ∧ w'.cell? ⟨w.heap.size, 1, none⟩ = some (b16 a1) ∧ w'.cell? ⟨w.heap.size, 4, none⟩ = some (.slice aw ws.length cw))
      (first
        | with_reducible exact ⟨hk0, hk1, hk2⟩
        | with_reducible exact ⟨hk0d, hk1d, hk2d⟩
        | with_reducible exact ⟨hq0, hq1, hq2⟩
        | go_keep)
      (first
        | (go_at_call 43; (with_reducible refine HUN.out.mono ?_); rintro e w2 ⟨a2, c2, rfl, hsu, hb2, hxu⟩; have HSU := Lib.hid hsu; have HXU := Lib.hid hxu; clear hsu hxu; have hq0 := (hb2.cell (p := ⟨w.heap.size, 0, none⟩) hzb).trans hk0d; have hq1 := (hb2.cell (p := ⟨w.heap.size, 1, none⟩) hzb).trans hk1d; have hq2 := (hb2.cell (p := ⟨w.heap.size, 4, none⟩) hzb).trans hk2d; have HRB1 := Lib.hid (HRB.out.below hb2 hz); have hz0 := HRB1.out.frozen; obtain ⟨v0, hv0⟩ := HRB1.out.cell 0 (by omega); obtain ⟨v1, hv1⟩ := HRB1.out.cell 1 (by omega); obtain ⟨v2, hv2⟩ := HRB1.out.cell 2 (by omega); obtain ⟨v3, hv3⟩ := HRB1.out.cell 3 (by omega); obtain ⟨v4, hv4⟩ := HRB1.out.cell 4 (by omega); obtain ⟨v5, hv5⟩ := HRB1.out.cell 5 (by omega)))
    have HS := set_end HRB1.out (HB1.out.below.drew.trans (hb2.mono HB1.out.below.drew.size)) (show w.heap.size ≤ w.heap.size + 1 by omega) (b8 f1) (.int .u8 0) (.slice none 0 0) (.slice a2 ws.length c2) (b16 a1) (.int .u16 0)
    have HSB := setAll_sl (g := w.heap.size + 1) (f := b8 f1) (b := .int .u8 0) (m := .slice none 0 0) (t := .slice a2 ws.length c2) (ws := b16 a1) (bs := .int .u16 0) HSU.out (fun y hy => by have := HXU.out y hy; simp at this; omega)
    unfold setAll at HS HSB
    have HS2 := Lib.hid (And.intro HS HSB)
    clear HS HSB hk0 hk1 hk2 hk0d hk1d hk2d hq0 hq1 hq2 hz0 hv0 hv1 hv2 hv3 hv4 hv5
    go_wp2_with fail
    exact bodyPost_ret (v := .tuple #[.agg #[b8 f1, .int .u8 0, .slice none 0 0, .slice a2 ws.length c2, b16 a1, .int .u16 0], .bool true]) (results_cell_row_tmp rfl _ _ (w.heap.size + 1) 36 _ (0, 0) _ rfl HS2.out.1.1 Try.underlying36 rfl (by kernel_rfl) _ rfl) rfl
      (readR_some (q := ⟨f1, 0, [], ws, a1, 0⟩) (aw := a2) (cw := c2) (ab := none) (cb := 0) HF.out rfl ⟨HS2.out.2, Sl.none_⟩ HS2.out.1.2 (fun y hy => by rcases hy with hy | hy <;> first | (cases hy; done) | (have := HXU.out y hy; simp at this; omega)))
  by_cases g15 : f1.toNat = 15
  · have HF : Hid (echoN ⟨f1, a1, m1, t1, ws, bs⟩ = some ⟨f1, 0, [], [], a1, m1⟩) := Lib.hid (by unfold echoN; rw [if_neg hz1', if_neg g5, if_neg g6, if_pos (.inl g15)])
    have k5 : ((f1.toNat : Int) == 5) = false := by simp; omega
    have k6 : ((f1.toNat : Int) == 6) = false := by simp; omega
    have k15 : ((f1.toNat : Int) == 15) = true := by simp; omega
    clear hz1 hz1' g5 g6 g15
    go_enter Try.func35, Try.ntmps35
    go_wp2_with fail
    refine (Right_any ⟨f1, a1, m1, t1, ws, bs⟩ aw cw ab cb _ hnw hnb).mono ?_
    rw [HZ1.out]
    rintro e w1 ⟨rfl, hb⟩
    have HB1 : Hid (Boxed w #[b8 f1, b16 a1, b16 m1, b16 t1, .slice aw ws.length cw, .slice ab bs.length cb] zeroRC 31 36 w1) := Lib.hid (HB.out.on (hb.mono HB.out.size))
    clear hb
    have C1 := HB1.out.one
    go_wp2_with (refine wpList_store_row rfl 36 (.tmp 2) (.tmp 39) rfl (w.heap.size + 1) #[b8 f1, .int .u8 0, .slice none 0 0, .slice none 0 0, b16 a1, b16 m1] rfl rfl 36 zeroRC HB1.out.h2 (by kernel_rfl) (by kernel_rfl) (by kernel_rfl) ?_)
    have hBS := below_setRow HB1.out.below (show w.heap.size ≤ w.heap.size + 1 by omega) #[b8 f1, .int .u8 0, .slice none 0 0, .slice none 0 0, b16 a1, b16 m1]
    exact bodyPost_ret (v := .tuple #[.agg #[b8 f1, .int .u8 0, .slice none 0 0, .slice none 0 0, b16 a1, b16 m1], .bool true]) (results_cell_row_tmp rfl _ _ (w.heap.size + 1) 36 _ (0, 0) _ rfl (setRow_heap _ _ _ _ _ _ HB1.out.h2) Try.underlying36 rfl (by kernel_rfl) _ rfl) rfl (readR_some (q := ⟨f1, 0, [], [], a1, m1⟩) (aw := none) (cw := 0) (ab := none) (cb := 0) HF.out rfl (RepAt.nil rfl rfl) hBS (fun x hx => by rcases hx with hx | hx <;> cases hx))
  by_cases g16 : f1.toNat = 16
  · have HF : Hid (echoN ⟨f1, a1, m1, t1, ws, bs⟩ = some ⟨f1, 0, [], [], a1, m1⟩) := Lib.hid (by unfold echoN; rw [if_neg hz1', if_neg g5, if_neg g6, if_pos (.inr g16)])
    have k5 : ((f1.toNat : Int) == 5) = false := by simp; omega
    have k6 : ((f1.toNat : Int) == 6) = false := by simp; omega
    have k15 : ((f1.toNat : Int) == 15) = false := by simp; omega
    have k16 : ((f1.toNat : Int) == 16) = true := by simp; omega
    clear hz1 hz1' g5 g6 g15 g16
    go_enter Try.func35, Try.ntmps35
    go_wp2_with fail
    refine (Right_any ⟨f1, a1, m1, t1, ws, bs⟩ aw cw ab cb _ hnw hnb).mono ?_
    rw [HZ1.out]
    rintro e w1 ⟨rfl, hb⟩
    have HB1 : Hid (Boxed w #[b8 f1, b16 a1, b16 m1, b16 t1, .slice aw ws.length cw, .slice ab bs.length cb] zeroRC 31 36 w1) := Lib.hid (HB.out.on (hb.mono HB.out.size))
    clear hb
    have C1 := HB1.out.one
    go_wp2_with (refine wpList_store_row rfl 36 (.tmp 2) (.tmp 39) rfl (w.heap.size + 1) #[b8 f1, .int .u8 0, .slice none 0 0, .slice none 0 0, b16 a1, b16 m1] rfl rfl 36 zeroRC HB1.out.h2 (by kernel_rfl) (by kernel_rfl) (by kernel_rfl) ?_)
    have hBS := below_setRow HB1.out.below (show w.heap.size ≤ w.heap.size + 1 by omega) #[b8 f1, .int .u8 0, .slice none 0 0, .slice none 0 0, b16 a1, b16 m1]
    exact bodyPost_ret (v := .tuple #[.agg #[b8 f1, .int .u8 0, .slice none 0 0, .slice none 0 0, b16 a1, b16 m1], .bool true]) (results_cell_row_tmp rfl _ _ (w.heap.size + 1) 36 _ (0, 0) _ rfl (setRow_heap _ _ _ _ _ _ HB1.out.h2) Try.underlying36 rfl (by kernel_rfl) _ rfl) rfl (readR_some (q := ⟨f1, 0, [], [], a1, m1⟩) (aw := none) (cw := 0) (ab := none) (cb := 0) HF.out rfl (RepAt.nil rfl rfl) hBS (fun x hx => by rcases hx with hx | hx <;> cases hx))
  have HF : Hid (echoN ⟨f1, a1, m1, t1, ws, bs⟩ = none) := Lib.hid (by unfold echoN; rw [if_neg hz1', if_neg g5, if_neg g6, if_neg (fun h => h.elim g15 g16)])
  have k5 : ((f1.toNat : Int) == 5) = false := by simp; omega
  have k6 : ((f1.toNat : Int) == 6) = false := by simp; omega
  have k15 : ((f1.toNat : Int) == 15) = false := by simp; omega
  have k16 : ((f1.toNat : Int) == 16) = false := by simp; omega
  clear hz1 hz1' g5 g6 g15 g16
  go_enter Try.func35, Try.ntmps35
  go_wp2_with fail
  refine (Right_any ⟨f1, a1, m1, t1, ws, bs⟩ aw cw ab cb _ hnw hnb).mono ?_
  rw [HZ1.out]
  rintro e w1 ⟨rfl, hb⟩
  have HB1 : Hid (Boxed w #[b8 f1, b16 a1, b16 m1, b16 t1, .slice aw ws.length cw, .slice ab bs.length cb] zeroRC 31 36 w1) := Lib.hid (HB.out.on (hb.mono HB.out.size))
  clear hb
  have C1 := HB1.out.one
  go_wp2_with (refine wpList_store_row rfl 36 (.tmp 2) (.tmp 40) rfl (w.heap.size + 1) zeroRC rfl rfl 36 zeroRC HB1.out.h2 (by kernel_rfl) (by kernel_rfl) (by kernel_rfl) ?_)
  have hBS := below_setRow HB1.out.below (show w.heap.size ≤ w.heap.size + 1 by omega) zeroRC
  exact bodyPost_ret (v := .tuple #[.agg zeroRC, .bool false]) (results_cell_row_tmp rfl _ _ (w.heap.size + 1) 36 _ (0, 0) _ rfl (setRow_heap _ _ _ _ _ _ HB1.out.h2) Try.underlying36 rfl (by kernel_rfl) _ rfl) rfl (readR_none HF.out hBS)
end Go.Proofs.Ytamdpinfbadflaa.ReplyW
/- Which replies fit a request that reads words. -/
open Go.RowKit
namespace Go.Proofs.Ytamdpinfbadflaa.ReplyW
open AskM ReplyM AskW Mem

/-- Which replies fit a request that reads words. -/
def fitsWords (a : Req) (r : Rep) : Bool := rightN a && rrightN r && decide (a.fn = r.fn) && (decide (0 < r.ex.toNat) || decide (r.words.length = a.many.toNat))
set_option maxRecDepth 100000 in
set_option maxHeartbeats 8000000 in
theorem FitsWords_any (a : Req) (aw : Option Addr) (cw : Nat) (ab : Option Addr) (cb : Nat) (r : Rep) (rw_ : Option Addr) (dw : Nat) (rb : Option Addr) (db : Nat) (w : World) (_hA : AskAt w w.heap.size a aw cw ab cb) (hR : RepAt w w.heap.size r rw_ dw rb db)
    (hnw : a.words.length ≤ 1000000) (hnb : a.bits.length ≤ 1000000) (hf : a.fn.toNat = 3 ∨ a.fn.toNat = 4 ∨ a.fn.toNat = 23) :
    Calls Try.prog 15 #[askV a aw cw ab cb, repV r rw_ dw rb db] w (Says (.bool (fitsWords a r)) w) := by
  have hB0 : Boxed w #[b8 a.fn, b16 a.at_, b16 a.many, b16 a.to_, .slice aw a.words.length cw, .slice ab a.bits.length cb] #[b8 r.fn, b8 r.ex, .slice rb r.bits.length db, .slice rw_ r.words.length dw, b16 r.at_, b16 r.many] 31 36 ((w.alloc (.cells #[b8 a.fn, b16 a.at_, b16 a.many, b16 a.to_, .slice aw a.words.length cw, .slice ab a.bits.length cb] 31)).alloc (.cells #[b8 r.fn, b8 r.ex, .slice rb r.bits.length db, .slice rw_ r.words.length dw, b16 r.at_, b16 r.many] 36)) := Below.refl _ _
  have HB := Lib.hid hB0
  have HR := Lib.hid hR
  clear _hA hR hB0
  obtain ⟨f1, a1, m1, t1, ws, bs⟩ := a
  obtain ⟨g1, x1, b1, s1, c1, n1⟩ := r
  simp only at hnw hnb hf
  have hm1 := m1.toNat_lt
  obtain ⟨z1, hz1⟩ : ∃ z, rightN ⟨f1, a1, m1, t1, ws, bs⟩ = z := ⟨_, rfl⟩
  obtain ⟨z2, hz2⟩ : ∃ z, rrightN ⟨g1, x1, b1, s1, c1, n1⟩ = z := ⟨_, rfl⟩
  have HF : Hid (fitsWords ⟨f1, a1, m1, t1, ws, bs⟩ ⟨g1, x1, b1, s1, c1, n1⟩ = (z1 && z2 && decide (f1 = g1) && (decide (0 < x1.toNat) || decide (s1.length = m1.toNat)))) := Lib.hid (by unfold fitsWords; rw [hz1, hz2])
  have HZ1 := Lib.hid hz1
  have HZ2 := Lib.hid hz2
  rw [HF.out]
  clear hz1 hz2 HF
  cases z1
  · go_enter Try.func15, Try.ntmps15
    go_wp2_with fail
    refine (Right_any ⟨f1, a1, m1, t1, ws, bs⟩ aw cw ab cb _ hnw hnb).mono ?_
    rw [HZ1.out]
    rintro e w1 ⟨rfl, hb⟩
    have HB1 := Lib.hid (HB.out.on (hb.mono HB.out.size))
    clear hb
    go_wp2_with fail
    go_ret
    exact ⟨by simp, HB1.out.below⟩
  have step : ∀ (Q : Ending → World → Prop), (∀ w1, Boxed w #[b8 f1, b16 a1, b16 m1, b16 t1, .slice aw ws.length cw, .slice ab bs.length cb] #[b8 g1, b8 x1, .slice rb b1.length db, .slice rw_ s1.length dw, b16 c1, b16 n1] 31 36 w1 → Q (.returned (.bool true)) w1) → Calls Try.prog 27 #[askV ⟨f1, a1, m1, t1, ws, bs⟩ aw cw ab cb] ((w.alloc (.cells #[b8 f1, b16 a1, b16 m1, b16 t1, .slice aw ws.length cw, .slice ab bs.length cb] 31)).alloc (.cells #[b8 g1, b8 x1, .slice rb b1.length db, .slice rw_ s1.length dw, b16 c1, b16 n1] 36)) Q := by
    intro Q hQ
    refine (Right_any ⟨f1, a1, m1, t1, ws, bs⟩ aw cw ab cb _ hnw hnb).mono ?_
    rw [HZ1.out]
    rintro e w1 ⟨rfl, hb⟩
    exact hQ w1 (HB.out.on (hb.mono HB.out.size))
  have step2 : ∀ (Q : Ending → World → Prop) (w1 : World), Boxed w #[b8 f1, b16 a1, b16 m1, b16 t1, .slice aw ws.length cw, .slice ab bs.length cb] #[b8 g1, b8 x1, .slice rb b1.length db, .slice rw_ s1.length dw, b16 c1, b16 n1] 31 36 w1 → (∀ w2, Boxed w #[b8 f1, b16 a1, b16 m1, b16 t1, .slice aw ws.length cw, .slice ab bs.length cb] #[b8 g1, b8 x1, .slice rb b1.length db, .slice rw_ s1.length dw, b16 c1, b16 n1] 31 36 w2 → Q (.returned (.bool z2)) w2) → Calls Try.prog 33 #[repV ⟨g1, x1, b1, s1, c1, n1⟩ rw_ dw rb db] w1 Q := by
    intro Q w1 hb1 hQ
    refine (RRight_any ⟨g1, x1, b1, s1, c1, n1⟩ rw_ dw rb db w1 (HR.out.below hb1.below)).mono ?_
    rw [HZ2.out]
    rintro e w2 ⟨rfl, hb⟩
    exact hQ w2 (hb1.on (hb.mono hb1.size))
  have HS1 := Lib.hid step
  have HS2 := Lib.hid step2
  clear step step2
  cases z2
  · go_enter Try.func15, Try.ntmps15
    go_wp2_with fail
    refine HS1.out _ fun w1 hb1 => ?_
    have HB1 := Lib.hid hb1
    have C2 := hb1.two
    clear hb1
    go_wp2_with fail
    refine HS2.out _ _ HB1.out fun w2 hb2 => ?_
    have HB2 := Lib.hid hb2
    clear hb2 C2
    go_wp2_with fail
    go_ret
    exact ⟨by simp, HB2.out.below⟩
  by_cases hfg : f1 = g1
  case neg =>
    have hne : ((f1.toNat : Int) != (g1.toNat : Int)) = true := by
      have : ¬ f1.toNat = g1.toNat := fun h => hfg (UInt8.toNat_inj.1 h)
      simp; omega
    have HD : Hid (decide (f1 = g1) = false) := Lib.hid (by simp [hfg])
    rw [HD.out]
    clear hfg hf
    go_enter Try.func15, Try.ntmps15
    go_wp2_with fail
    refine HS1.out _ fun w1 hb1 => ?_
    have HB1 := Lib.hid hb1
    have C2 := hb1.two
    clear hb1
    go_wp2_with fail
    refine HS2.out _ _ HB1.out fun w2 hb2 => ?_
    have HB2 := Lib.hid hb2
    have D1 := hb2.one
    have D2 := hb2.two
    clear hb2 C2
    go_wp2_with fail
    go_ret
    exact ⟨by simp, HB2.out.below⟩
  subst hfg
  have hne : ((f1.toNat : Int) != (f1.toNat : Int)) = false := by simp
  by_cases hx : 0 < x1.toNat
  · have e1 : decide ((0 : Int) < (x1.toNat : Int)) = true := by simp; omega
    have e2 : decide (0 < x1.toNat) = true := by simp; omega
    rw [e2]
    clear hx hf
    go_enter Try.func15, Try.ntmps15
    go_wp2_with fail
    refine HS1.out _ fun w1 hb1 => ?_
    have HB1 := Lib.hid hb1
    have C2 := hb1.two
    clear hb1
    go_wp2_with fail
    refine HS2.out _ _ HB1.out fun w2 hb2 => ?_
    have HB2 := Lib.hid hb2
    have D1 := hb2.one
    have D2 := hb2.two
    clear hb2 C2
    go_wp2_with fail
    go_ret
    exact ⟨by simp, HB2.out.below⟩
  have e1 : decide ((0 : Int) < (x1.toNat : Int)) = false := by simp; omega
  have e2 : decide (0 < x1.toNat) = false := by simp; omega
  rw [e2]
  clear hx
  obtain ⟨z, hz⟩ : ∃ z : Bool, ((s1.length : Int) == (m1.toNat : Int)) = z := ⟨_, rfl⟩
  have HZ : Hid (decide (s1.length = m1.toNat) = z) := Lib.hid (by rw [← hz, Bool.eq_iff_iff]; simp; omega)
  rcases hf with hf | hf | hf
  · have k1 : ((f1.toNat : Int) == 1) = false := by simp; omega
    have k2 : ((f1.toNat : Int) == 2) = false := by simp; omega
    have k3 : ((f1.toNat : Int) == 3) = true := by simp; omega
    clear hf
    go_enter Try.func15, Try.ntmps15
    go_wp2_with fail
    refine HS1.out _ fun w1 hb1 => ?_
    have HB1 := Lib.hid hb1
    have C2 := hb1.two
    clear hb1
    go_wp2_with fail
    refine HS2.out _ _ HB1.out fun w2 hb2 => ?_
    have HB2 := Lib.hid hb2
    have D1 := hb2.one
    have D2 := hb2.two
    clear hb2 C2
    go_wp2_with fail
    go_ret
    exact ⟨ret_bool (by rw [HZ.out]; simp), HB2.out.below⟩
  · have k1 : ((f1.toNat : Int) == 1) = false := by simp; omega
    have k2 : ((f1.toNat : Int) == 2) = false := by simp; omega
    have k3 : ((f1.toNat : Int) == 3) = false := by simp; omega
    have k4 : ((f1.toNat : Int) == 4) = true := by simp; omega
    clear hf
    go_enter Try.func15, Try.ntmps15
    go_wp2_with fail
    refine HS1.out _ fun w1 hb1 => ?_
    have HB1 := Lib.hid hb1
    have C2 := hb1.two
    clear hb1
    go_wp2_with fail
    refine HS2.out _ _ HB1.out fun w2 hb2 => ?_
    have HB2 := Lib.hid hb2
    have D1 := hb2.one
    have D2 := hb2.two
    clear hb2 C2
    go_wp2_with fail
    go_ret
    exact ⟨ret_bool (by rw [HZ.out]; simp), HB2.out.below⟩
  · have k1 : ((f1.toNat : Int) == 1) = false := by simp; omega
    have k2 : ((f1.toNat : Int) == 2) = false := by simp; omega
    have k3 : ((f1.toNat : Int) == 3) = false := by simp; omega
    have k4 : ((f1.toNat : Int) == 4) = false := by simp; omega
    have k23 : ((f1.toNat : Int) == 23) = true := by simp; omega
    clear hf
    go_enter Try.func15, Try.ntmps15
    go_wp2_with fail
    refine HS1.out _ fun w1 hb1 => ?_
    have HB1 := Lib.hid hb1
    have C2 := hb1.two
    clear hb1
    go_wp2_with fail
    refine HS2.out _ _ HB1.out fun w2 hb2 => ?_
    have HB2 := Lib.hid hb2
    have D1 := hb2.one
    have D2 := hb2.two
    clear hb2 C2
    go_wp2_with fail
    go_ret
    exact ⟨ret_bool (by rw [HZ.out]; simp), HB2.out.below⟩
end Go.Proofs.Ytamdpinfbadflaa.ReplyW
/- Which replies fit a request that writes; and which fit any. -/
open Go.RowKit
namespace Go.Proofs.Ytamdpinfbadflaa.ReplyW
open AskM ReplyM AskW Mem

/-- Which replies fit a request that writes. -/
def fitsEcho (a : Req) (r : Rep) : Bool := rightN a && rrightN r && decide (a.fn = r.fn) && (decide (0 < r.ex.toNat) || decide (echoN a = some r))
set_option maxRecDepth 100000 in
set_option maxHeartbeats 8000000 in
theorem FitsEcho_any (a : Req) (aw : Option Addr) (cw : Nat) (ab : Option Addr) (cb : Nat) (r : Rep) (rw_ : Option Addr) (dw : Nat) (rb : Option Addr) (db : Nat) (w : World) (hA : AskAt w w.heap.size a aw cw ab cb) (hR : RepAt w w.heap.size r rw_ dw rb db)
    (hnw : a.words.length ≤ 1000000) (hnb : a.bits.length ≤ 1000000) (hf : a.fn.toNat = 5 ∨ a.fn.toNat = 6 ∨ a.fn.toNat = 15 ∨ a.fn.toNat = 16) :
    Calls Try.prog 15 #[askV a aw cw ab cb, repV r rw_ dw rb db] w (Says (.bool (fitsEcho a r)) w) := by
  have hB0 : Boxed w #[b8 a.fn, b16 a.at_, b16 a.many, b16 a.to_, .slice aw a.words.length cw, .slice ab a.bits.length cb] #[b8 r.fn, b8 r.ex, .slice rb r.bits.length db, .slice rw_ r.words.length dw, b16 r.at_, b16 r.many] 31 36 ((w.alloc (.cells #[b8 a.fn, b16 a.at_, b16 a.many, b16 a.to_, .slice aw a.words.length cw, .slice ab a.bits.length cb] 31)).alloc (.cells #[b8 r.fn, b8 r.ex, .slice rb r.bits.length db, .slice rw_ r.words.length dw, b16 r.at_, b16 r.many] 36)) := Below.refl _ _
  have HB := Lib.hid hB0
  have HR := Lib.hid hR
  have HA := Lib.hid hA
  clear hA hR hB0
  obtain ⟨f1, a1, m1, t1, ws, bs⟩ := a
  obtain ⟨g1, x1, b1, s1, c1, n1⟩ := r
  simp only at hnw hnb hf
  have hm1 := m1.toNat_lt
  obtain ⟨z1, hz1⟩ : ∃ z, rightN ⟨f1, a1, m1, t1, ws, bs⟩ = z := ⟨_, rfl⟩
  obtain ⟨z2, hz2⟩ : ∃ z, rrightN ⟨g1, x1, b1, s1, c1, n1⟩ = z := ⟨_, rfl⟩
  have HF : Hid (fitsEcho ⟨f1, a1, m1, t1, ws, bs⟩ ⟨g1, x1, b1, s1, c1, n1⟩ = (z1 && z2 && decide (f1 = g1) && (decide (0 < x1.toNat) || decide (echoN ⟨f1, a1, m1, t1, ws, bs⟩ = some ⟨g1, x1, b1, s1, c1, n1⟩)))) := Lib.hid (by unfold fitsEcho; rw [hz1, hz2])
  have HZ1 := Lib.hid hz1
  have HZ2 := Lib.hid hz2
  rw [HF.out]
  clear hz1 hz2 HF
  cases z1
  · go_enter Try.func15, Try.ntmps15
    go_wp2_with fail
    refine (Right_any ⟨f1, a1, m1, t1, ws, bs⟩ aw cw ab cb _ hnw hnb).mono ?_
    rw [HZ1.out]
    rintro e w1 ⟨rfl, hb⟩
    have HB1 := Lib.hid (HB.out.on (hb.mono HB.out.size))
    clear hb
    go_wp2_with fail
    go_ret
    exact ⟨by simp, HB1.out.below⟩
  have step : ∀ (Q : Ending → World → Prop), (∀ w1, Boxed w #[b8 f1, b16 a1, b16 m1, b16 t1, .slice aw ws.length cw, .slice ab bs.length cb] #[b8 g1, b8 x1, .slice rb b1.length db, .slice rw_ s1.length dw, b16 c1, b16 n1] 31 36 w1 → Q (.returned (.bool true)) w1) → Calls Try.prog 27 #[askV ⟨f1, a1, m1, t1, ws, bs⟩ aw cw ab cb] ((w.alloc (.cells #[b8 f1, b16 a1, b16 m1, b16 t1, .slice aw ws.length cw, .slice ab bs.length cb] 31)).alloc (.cells #[b8 g1, b8 x1, .slice rb b1.length db, .slice rw_ s1.length dw, b16 c1, b16 n1] 36)) Q := by
    intro Q hQ
    refine (Right_any ⟨f1, a1, m1, t1, ws, bs⟩ aw cw ab cb _ hnw hnb).mono ?_
    rw [HZ1.out]
    rintro e w1 ⟨rfl, hb⟩
    exact hQ w1 (HB.out.on (hb.mono HB.out.size))
  have step2 : ∀ (Q : Ending → World → Prop) (w1 : World), Boxed w #[b8 f1, b16 a1, b16 m1, b16 t1, .slice aw ws.length cw, .slice ab bs.length cb] #[b8 g1, b8 x1, .slice rb b1.length db, .slice rw_ s1.length dw, b16 c1, b16 n1] 31 36 w1 → (∀ w2, Boxed w #[b8 f1, b16 a1, b16 m1, b16 t1, .slice aw ws.length cw, .slice ab bs.length cb] #[b8 g1, b8 x1, .slice rb b1.length db, .slice rw_ s1.length dw, b16 c1, b16 n1] 31 36 w2 → Q (.returned (.bool z2)) w2) → Calls Try.prog 33 #[repV ⟨g1, x1, b1, s1, c1, n1⟩ rw_ dw rb db] w1 Q := by
    intro Q w1 hb1 hQ
    refine (RRight_any ⟨g1, x1, b1, s1, c1, n1⟩ rw_ dw rb db w1 (HR.out.below hb1.below)).mono ?_
    rw [HZ2.out]
    rintro e w2 ⟨rfl, hb⟩
    exact hQ w2 (hb1.on (hb.mono hb1.size))
  have HS1 := Lib.hid step
  have HS2 := Lib.hid step2
  clear step step2
  cases z2
  · go_enter Try.func15, Try.ntmps15
    go_wp2_with fail
    refine HS1.out _ fun w1 hb1 => ?_
    have HB1 := Lib.hid hb1
    have C2 := hb1.two
    clear hb1
    go_wp2_with fail
    refine HS2.out _ _ HB1.out fun w2 hb2 => ?_
    have HB2 := Lib.hid hb2
    clear hb2 C2
    go_wp2_with fail
    go_ret
    exact ⟨by simp, HB2.out.below⟩
  by_cases hfg : f1 = g1
  case neg =>
    have hne : ((f1.toNat : Int) != (g1.toNat : Int)) = true := by
      have : ¬ f1.toNat = g1.toNat := fun h => hfg (UInt8.toNat_inj.1 h)
      simp; omega
    have HD : Hid (decide (f1 = g1) = false) := Lib.hid (by simp [hfg])
    rw [HD.out]
    clear hfg hf
    go_enter Try.func15, Try.ntmps15
    go_wp2_with fail
    refine HS1.out _ fun w1 hb1 => ?_
    have HB1 := Lib.hid hb1
    have C2 := hb1.two
    clear hb1
    go_wp2_with fail
    refine HS2.out _ _ HB1.out fun w2 hb2 => ?_
    have HB2 := Lib.hid hb2
    have D1 := hb2.one
    have D2 := hb2.two
    clear hb2 C2
    go_wp2_with fail
    go_ret
    exact ⟨by simp, HB2.out.below⟩
  subst hfg
  have hne : ((f1.toNat : Int) != (f1.toNat : Int)) = false := by simp
  by_cases hx : 0 < x1.toNat
  · have e1 : decide ((0 : Int) < (x1.toNat : Int)) = true := by simp; omega
    have e2 : decide (0 < x1.toNat) = true := by simp; omega
    rw [e2]
    clear hx hf
    go_enter Try.func15, Try.ntmps15
    go_wp2_with fail
    refine HS1.out _ fun w1 hb1 => ?_
    have HB1 := Lib.hid hb1
    have C2 := hb1.two
    clear hb1
    go_wp2_with fail
    refine HS2.out _ _ HB1.out fun w2 hb2 => ?_
    have HB2 := Lib.hid hb2
    have D1 := hb2.one
    have D2 := hb2.two
    clear hb2 C2
    go_wp2_with fail
    go_ret
    exact ⟨by simp, HB2.out.below⟩
  have e1 : decide ((0 : Int) < (x1.toNat : Int)) = false := by simp; omega
  have e2 : decide (0 < x1.toNat) = false := by simp; omega
  rw [e2]
  have k1 : ((f1.toNat : Int) == 1) = false := by simp; omega
  have k2 : ((f1.toNat : Int) == 2) = false := by simp; omega
  have k3 : ((f1.toNat : Int) == 3) = false := by simp; omega
  have k4 : ((f1.toNat : Int) == 4) = false := by simp; omega
  have k23 : ((f1.toNat : Int) == 23) = false := by simp; omega
  clear hx hf
  cases hq : echoN ⟨f1, a1, m1, t1, ws, bs⟩ with
  | none =>
    have HQ := Lib.hid hq
    clear hq
    go_enter Try.func15, Try.ntmps15
    go_wp2_with fail
    refine HS1.out _ fun w1 hb1 => ?_
    have HB1 := Lib.hid hb1
    have C2 := hb1.two
    clear hb1
    go_wp2_with fail
    refine HS2.out _ _ HB1.out fun w2 hb2 => ?_
    have HB2 := Lib.hid hb2
    have D1 := hb2.one
    have D2 := hb2.two
    clear hb2 C2
    go_wp2_with fail
    refine (Echo_any ⟨f1, a1, m1, t1, ws, bs⟩ aw cw ab cb w2 (HA.out.below HB2.out.below) hnw hnb).mono ?_
    rw [HQ.out]
    rintro e w3 ⟨aw3, cw3, ab3, cb3, rfl, hP, hb3, -⟩
    have HB3 := Lib.hid (HB2.out.on (hb3.mono HB2.out.size))
    have HP := Lib.hid hP
    clear hb3 hP D1 D2
    simp only [Option.getD_none, Option.isSome_none, zeroR]
    go_wp2_with fail
    go_ret
    exact ⟨ret_bool (by simp), HB3.out.below.alloc HB3.out.below.size _⟩
  | some q =>
    obtain ⟨g2, y2, b2, s2, c2, n2⟩ := q
    have HQ := Lib.hid hq
    clear hq
    go_enter Try.func15, Try.ntmps15
    go_wp2_with fail
    refine HS1.out _ fun w1 hb1 => ?_
    have HB1 := Lib.hid hb1
    have C2 := hb1.two
    clear hb1
    go_wp2_with fail
    refine HS2.out _ _ HB1.out fun w2 hb2 => ?_
    have HB2 := Lib.hid hb2
    have D1 := hb2.one
    have D2 := hb2.two
    clear hb2 C2
    go_wp2_with fail
    refine (Echo_any ⟨f1, a1, m1, t1, ws, bs⟩ aw cw ab cb w2 (HA.out.below HB2.out.below) hnw hnb).mono ?_
    rw [HQ.out]
    rintro e w3 ⟨aw3, cw3, ab3, cb3, rfl, hP, hb3, -⟩
    have HB3 := Lib.hid (HB2.out.on (hb3.mono HB2.out.size))
    have HP := Lib.hid hP
    clear hb3 hP D1 D2
    simp only [Option.getD_some, Option.isSome_some]
    have E2 := fun (x : Obj) (o : Nat) => (World.cell?_alloc_lt w3 x ⟨w.heap.size + 1, o, none⟩ (by have := HB3.out.size; show w.heap.size + 1 < _; omega)).trans (HB3.out.two o)
    go_wp2_with fail
    refine (RSame_at _ _ ⟨f1, x1, b1, s1, c1, n1⟩ ⟨g2, y2, b2, s2, c2, n2⟩ rw_ dw rb db aw3 cw3 ab3 cb3 _ rfl rfl ((HR.out.below HB3.out.below).below ((Below.refl _ _).alloc (Nat.le_refl _) _)) (HP.out.below ((Below.refl _ _).alloc (Nat.le_refl _) _))).mono ?_
    rintro e w4 ⟨rfl, hb4⟩
    obtain ⟨z, hz⟩ : ∃ z, decide ((⟨f1, x1, b1, s1, c1, n1⟩ : Rep) = ⟨g2, y2, b2, s2, c2, n2⟩) = z := ⟨_, rfl⟩
    have HZ : Hid (decide ((some (⟨g2, y2, b2, s2, c2, n2⟩ : Rep)) = some ⟨f1, x1, b1, s1, c1, n1⟩) = z) := Lib.hid (by rw [← hz, Bool.eq_iff_iff, decide_eq_true_eq, decide_eq_true_eq, Option.some.injEq]; exact eq_comm)
    rw [hz]
    clear hz
    have HB4 := Lib.hid (says_on HB3.out.below hb4)
    clear hb4 E2
    go_wp2_with fail
    go_ret
    exact ⟨ret_bool (by rw [HZ.out]; simp), HB4.out⟩
/-- No reply fits a request that is not right. -/
theorem FitsNot_any (a : Req) (aw : Option Addr) (cw : Nat) (ab : Option Addr) (cb : Nat) (r : Rep) (rw_ : Option Addr) (dw : Nat) (rb : Option Addr) (db : Nat) (w : World)
    (hnw : a.words.length ≤ 1000000) (hnb : a.bits.length ≤ 1000000) (hf : rightN a = false) :
    Calls Try.prog 15 #[askV a aw cw ab cb, repV r rw_ dw rb db] w (Says (.bool false) w) := by
  obtain ⟨f1, a1, m1, t1, ws, bs⟩ := a
  obtain ⟨g1, x1, b1, s1, c1, n1⟩ := r
  simp only at hnw hnb
  have HF := Lib.hid hf
  clear hf
  go_enter Try.func15, Try.ntmps15
  go_wp2_with fail
  refine (Right_any ⟨f1, a1, m1, t1, ws, bs⟩ aw cw ab cb _ hnw hnb).mono ?_
  rw [HF.out]
  rintro e w1 ⟨rfl, hb⟩
  have HB1 := Lib.hid ((below_two w _ _).trans (hb.mono (by simp; omega)))
  clear hb
  go_wp2_with fail
  go_ret
  exact ⟨rfl, HB1.out⟩
/-- Which replies fit which requests. -/
def fitsN (a : Req) (r : Rep) : Bool :=
  if a.fn.toNat = 1 ∨ a.fn.toNat = 2 then fitsBits a r
  else if a.fn.toNat = 3 ∨ a.fn.toNat = 4 ∨ a.fn.toNat = 23 then fitsWords a r
  else if a.fn.toNat = 5 ∨ a.fn.toNat = 6 ∨ a.fn.toNat = 15 ∨ a.fn.toNat = 16 then fitsEcho a r
  else false
theorem right_fn {a : Req} (h : rightN a = true) : (a.fn.toNat = 1 ∨ a.fn.toNat = 2) ∨ (a.fn.toNat = 3 ∨ a.fn.toNat = 4 ∨ a.fn.toNat = 23) ∨ (a.fn.toNat = 5 ∨ a.fn.toNat = 6 ∨ a.fn.toNat = 15 ∨ a.fn.toNat = 16) := by
  unfold rightN at h
  cases hr : rowN a.fn.toNat with
  | none => rw [hr] at h; cases h
  | some F => rcases rowN_cases hr with h | h | h | h | h | h | h <;> omega
theorem Fits_any (a : Req) (aw : Option Addr) (cw : Nat) (ab : Option Addr) (cb : Nat) (r : Rep) (rw_ : Option Addr) (dw : Nat) (rb : Option Addr) (db : Nat) (w : World) (hA : AskAt w w.heap.size a aw cw ab cb) (hR : RepAt w w.heap.size r rw_ dw rb db)
    (hnw : a.words.length ≤ 1000000) (hnb : a.bits.length ≤ 1000000) :
    Calls Try.prog 15 #[askV a aw cw ab cb, repV r rw_ dw rb db] w (Says (.bool (fitsN a r)) w) := by
  unfold fitsN
  by_cases h1 : a.fn.toNat = 1 ∨ a.fn.toNat = 2
  · rw [if_pos h1]; exact FitsBits_any a aw cw ab cb r rw_ dw rb db w hA hR hnw hnb h1
  by_cases h2 : a.fn.toNat = 3 ∨ a.fn.toNat = 4 ∨ a.fn.toNat = 23
  · rw [if_neg h1, if_pos h2]; exact FitsWords_any a aw cw ab cb r rw_ dw rb db w hA hR hnw hnb h2
  by_cases h3 : a.fn.toNat = 5 ∨ a.fn.toNat = 6 ∨ a.fn.toNat = 15 ∨ a.fn.toNat = 16
  · rw [if_neg h1, if_neg h2, if_pos h3]; exact FitsEcho_any a aw cw ab cb r rw_ dw rb db w hA hR hnw hnb h3
  · rw [if_neg h1, if_neg h2, if_neg h3]
    refine FitsNot_any a aw cw ab cb r rw_ dw rb db w hnw hnb ?_
    cases h : rightN a
    · rfl
    · rcases right_fn h with h | h | h
      · exact absurd h h1
      · exact absurd h h2
      · exact absurd h h3
end Go.Proofs.Ytamdpinfbadflaa.ReplyW
/- The examples of the chapter on replies. -/
open Go.RowKit
namespace Go.Proofs.Ytamdpinfbadflaa.ReplyW
open AskM ReplyM AskW Mem

theorem fits_at (v u : Value) (a : Req) (aw : Option Addr) (cw : Nat) (ab : Option Addr) (cb : Nat) (r : Rep) (rw_ : Option Addr) (dw : Nat) (rb : Option Addr) (db : Nat) (w : World) (hv : v = askV a aw cw ab cb) (hu : u = repV r rw_ dw rb db) (hA : AskAt w w.heap.size a aw cw ab cb) (hR : RepAt w w.heap.size r rw_ dw rb db)
    (hnw : a.words.length ≤ 1000000) (hnb : a.bits.length ≤ 1000000) (hf : a.fn.toNat = 1 ∨ a.fn.toNat = 2) {z : Bool} (hz : fitsBits a r = z) :
    Calls Try.prog 15 #[v, u] w (Says (.bool z) w) := by
  subst hv hu hz
  exact FitsBits_any a aw cw ab cb r rw_ dw rb db w hA hR hnw hnb hf
theorem rex1 : rbytesN ⟨3, 0, [], [1, 258], 0, 0⟩ = some [3, 4, 0, 1, 1, 2] := by decide +kernel
theorem rex2 : rbytesN (wrongN 3 2) = some [131, 2] := by decide +kernel
theorem rex3 : rbytesN ⟨15, 0, [], [], 19, 10⟩ = some [15, 0, 19, 0, 10] := by decide +kernel
theorem rex4 : fitsBits ⟨1, 0, 10, 0, [], []⟩ ⟨1, 0, [false, false, false, false, false, false, false, false, false, true, false, false, false, false, false, false], [], 0, 0⟩ = true := by decide +kernel
theorem rex5 : fitsBits ⟨1, 0, 10, 0, [], []⟩ ⟨1, 0, [false, false, false, false, false, false, false, false, false, true, true, false, false, false, false, false], [], 0, 0⟩ = false := by decide +kernel
end Go.Proofs.Ytamdpinfbadflaa.ReplyW
