/- Lists cloned. -/
import Derived.Test.YtiecncnmmecjcaaReplyFill
open Go.RowKit
namespace Go.Proofs.Ytiecncnmmecjcaa.ReplyW
open AskM ReplyM AskW Mem

theorem bool_one (x : Bool) : (Value.bool x).oneCell' = true := rfl
theorem b16_one' (x : UInt16) : (b16 x).oneCell' = true := rfl
theorem sl_nil {α : Type} {f : α → Value} {w : World} {B n c : Nat} {l : List α} (h : Sl f w B none n c l) : n = 0 ∧ c = 0 ∧ l = [] := by
  have h1 := h.nil_cap
  have h2 := h.nle
  have h3 := h.len
  exact ⟨by omega, h1, List.eq_nil_of_length_eq_zero (by omega)⟩

set_option maxRecDepth 100000 in
theorem CloneB_any (a : Option Addr) (n c : Nat) (l : List Bool) (w : World) (hl : Sl Value.bool w w.heap.size a n c l) (hn : n ≤ 1000000) :
    Calls Try.prog 68 #[.slice a n c] w (Fresh Value.bool l w) := by
  cases a with
  | none =>
    obtain ⟨rfl, rfl, rfl⟩ := sl_nil hl
    have hq : (binOp .eql 24 (.slice none 0 0) (.slice none 0 0)).run Try.prog w = .ok (.bool true) w := by kernel_rfl
    go_enter Try.func68, Try.ntmps68
    go_wp2_with fail
    go_ret
    exact Fresh.mk rfl Sl.none_ (Below.refl _ _) (fun _ h => by cases h)
  | some x =>
    obtain ⟨iB, hB0, hB1, hB2, hB3⟩ := info_parts infoB
    have hq : (binOp .eql 24 (.slice (some x) n c) (.slice none 0 0)).run Try.prog w = .ok (.bool false) w := by kernel_rfl
    have HL := Lib.hid hl
    clear hl
    go_enter Try.func68, Try.ntmps68
    go_wp2_with (at_builtin; go_loud (refine wpList_append_sl (f := Value.bool) bool_one rfl (.tmp 5) (.tmp 6) 24 rfl w.heap.size 4 iB (.bool false) 1 Try.underlying24 hB0 hB1 hB2 hB3 rfl (.slice (some ⟨w.heap.size, 0, none⟩) 0 0) 0 [] rfl (World.ownsRow_made w #[] 0 (Nat.le_refl _) (by unfold maxLen; omega) rfl) (some x) n c rfl (HL.out.alloc (Nat.le_refl _) _) (by unfold maxLen; omega) (by omega) (by simp) ?_; intro v4 w4 hown4 hgrow4; simp only [Nat.zero_add, List.nil_append] at hown4; have HW4 := Lib.hid (((Below.refl w.heap.size w).alloc (Nat.le_refl _) (.cells #[] 4)).grown hgrow4 (by simp) (by simp [Value.ownBlock])); have HO := Lib.hid hown4; clear hown4 hgrow4))
    go_ret
    exact Fresh.of_own HO.out (Nat.le_refl _) HW4.out
set_option maxRecDepth 100000 in
theorem CloneW_any (a : Option Addr) (n c : Nat) (l : List UInt16) (w : World) (hl : Sl b16 w w.heap.size a n c l) (hn : n ≤ 1000000) :
    Calls Try.prog 69 #[.slice a n c] w (Fresh b16 l w) := by
  cases a with
  | none =>
    obtain ⟨rfl, rfl, rfl⟩ := sl_nil hl
    have hq : (binOp .eql 23 (.slice none 0 0) (.slice none 0 0)).run Try.prog w = .ok (.bool true) w := by kernel_rfl
    go_enter Try.func69, Try.ntmps69
    go_wp2_with fail
    go_ret
    exact Fresh.mk rfl Sl.none_ (Below.refl _ _) (fun _ h => by cases h)
  | some x =>
    obtain ⟨iB, hB0, hB1, hB2, hB3⟩ := info_parts info16
    have hq : (binOp .eql 23 (.slice (some x) n c) (.slice none 0 0)).run Try.prog w = .ok (.bool false) w := by kernel_rfl
    have HL := Lib.hid hl
    clear hl
    go_enter Try.func69, Try.ntmps69
    go_wp2_with (at_builtin; go_loud (refine wpList_append_sl (f := b16) b16_one' rfl (.tmp 5) (.tmp 6) 23 rfl w.heap.size 22 iB (.int .u16 0) 2 Try.underlying23 hB0 hB1 hB2 hB3 rfl (.slice (some ⟨w.heap.size, 0, none⟩) 0 0) 0 [] rfl (World.ownsRow_made w #[] 0 (Nat.le_refl _) (by unfold maxLen; omega) rfl) (some x) n c rfl (HL.out.alloc (Nat.le_refl _) _) (by unfold maxLen; omega) (by omega) (by simp) ?_; intro v4 w4 hown4 hgrow4; simp only [Nat.zero_add, List.nil_append] at hown4; have HW4 := Lib.hid (((Below.refl w.heap.size w).alloc (Nat.le_refl _) (.cells #[] 22)).grown hgrow4 (by simp) (by simp [Value.ownBlock])); have HO := Lib.hid hown4; clear hown4 hgrow4))
    go_ret
    exact Fresh.of_own HO.out (Nat.le_refl _) HW4.out
end Go.Proofs.Ytiecncnmmecjcaa.ReplyW
