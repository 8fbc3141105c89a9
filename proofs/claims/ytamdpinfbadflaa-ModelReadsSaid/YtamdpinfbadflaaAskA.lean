/- Small parts of ask: limits, the table's rows, numbers taken, as contracts. -/
import Derived.Test.YtamdpinfbadflaaChecked
import Derived.Test.YtamdpinfbadflaaMem
import Derived.Test.YtamdpinfbadflaaAskReq
import Derived.Deep.QuietTactic
import Derived.BigQuiet
import Derived.Outline
import Derived.Laws.BitsAllLaws
open Go.RowKit
namespace Go.Proofs.Ytamdpinfbadflaa.AskW
open AskM Mem

/-- A row of the table as a value. -/
abbrev rowV (F : Row) : Value := .agg #[.int .i64 (F.many : Int), .int .i64 (F.bits : Int), .int .i64 (F.words : Int), .bool F.to_]
theorem ret_bool {a b : Bool} (h : a = b) : Ending.returned (.bool a) = Ending.returned (.bool b) := by rw [h]

theorem lt_cast (n : Nat) : decide (1 < (n : Int)) = decide (1 < n) := by simp only [decide_eq_decide]; omega
theorem within_any (n most : Nat) (w : World) (hn : n ≤ 9223372036854775807) (hm : most ≤ 9223372036854775807) :
    Calls Try.prog 62 #[.int .i64 (n : Int), .int .i64 (most : Int)] w fun e w' => e = .returned (.bool (within n most)) ∧ w = w' := by
  by_cases h : min 1 most ≤ n
  · go_enter Try.func62, Try.ntmps62
    go_wp2_with fail
    all_goals
      go_ret
      exact ⟨ret_bool (by unfold within; simp [h]), rfl⟩
  · go_enter Try.func62, Try.ntmps62
    go_wp2_with fail
    all_goals
      go_ret
      exact ⟨ret_bool (by unfold within; simp [h]), rfl⟩
theorem listed_any (F : Row) (w : World) :
    Calls Try.prog 63 #[rowV F] w fun e w' => e = .returned (.bool (listed F)) ∧ w' = w.alloc (.cells #[.int .i64 (F.many : Int), .int .i64 (F.bits : Int), .int .i64 (F.words : Int), .bool F.to_] 85) := by
  by_cases h : 1 < F.bits
  · go_enter Try.func63, Try.ntmps63
    go_wp2_with fail
    all_goals
      go_ret
      exact ⟨ret_bool (by unfold listed; simp [h]), rfl⟩
  · go_enter Try.func63, Try.ntmps63
    go_wp2_with fail
    all_goals
      go_ret
      exact ⟨ret_bool (by unfold listed; simp [h, lt_cast]), rfl⟩
theorem or_num (x y : UInt8) : bits .or .u16 ((x.toNat : Int) * 256) (y.toNat : Int) = ((num x y).toNat : Int) := by
  have hx := x.toNat_lt
  have hy := y.toNat_lt
  have h := u16_or_nat (256 * x.toNat) y.toNat (by omega) (by omega)
  rw [nat_join 8 (256 * x.toNat) y.toNat (by omega) (by omega)] at h
  rw [toNat_num, show (x.toNat : Int) * 256 = ((256 * x.toNat : Nat) : Int) by omega]
  exact h
theorem len_le {α : Type} {f : α → Value} {w : World} {B n c : Nat} {a : Option Addr} {l : List α} (hl : Sl f w B a n c l) : n ≤ 9223372036854775807 := by
  have h1 := hl.nle; have h2 := hl.cle; unfold maxLen at h2; omega
/-- The number that bytes begin with, and what follows; nothing is written. -/
def Took (B : Nat) (l : List UInt8) (w : World) (e : Ending) (w' : World) : Prop :=
  ∃ a' c' k, e = .returned (.tuple #[b16 (at16 l 0), .slice a' (l.drop 2).length c']) ∧ Sl b8 w B a' (l.drop 2).length c' (l.drop 2) ∧ w' = w.drewN k
theorem Took.short {B : Nat} {l : List UInt8} {w : World} (h : l.length < 2) (k : Nat) : Took B l w (.returned (.tuple #[.int .u16 0, .slice none 0 0])) (w.drewN k) := by
  have h1 : at16 l 0 = 0 := by unfold at16; rw [if_neg (by omega)]
  have h2 : l.drop 2 = [] := List.drop_of_length_le (by omega)
  unfold Took
  rw [h1, h2]
  exact ⟨none, 0, k, rfl, Sl.none_, rfl⟩
theorem Took.mk {B : Nat} {x y : UInt8} {r : List UInt8} {w : World} {a : Option Addr} {n c : Nat} (h : Sl b8 w B a n c r) {z : Int} (hz : z = ((num x y).toNat : Int)) (k : Nat) : Took B (x :: y :: r) w (.returned (.tuple #[.int .u16 z, .slice a n c])) (w.drewN k) := by
  have h1 : at16 (x :: y :: r) 0 = num x y := by unfold at16; rw [if_pos (by simp)]; rfl
  obtain rfl := h.len
  subst hz
  unfold Took
  rw [h1]
  exact ⟨a, c, k, rfl, h, rfl⟩
theorem take_any (B : Nat) (a : Option Addr) (n c : Nat) (l : List UInt8) (w : World) (hl : Sl b8 w B a n c l) :
    Calls Try.prog 71 #[.slice a n c] w (Took B l w) := by
  have hn := len_le hl
  by_cases h : n < 2
  · go_enter Try.func71, Try.ntmps71
    go_wp2_with fail
    go_ret2
    exact Took.short (by rw [hl.len]; exact h) 0
  · obtain ⟨b, off, rfl, hb, hc⟩ := hl.cells (by omega)
    obtain ⟨x, y, r, rfl⟩ : ∃ x y r, l = x :: y :: r := by
      have := hl.len
      rcases l with _ | ⟨x, _ | ⟨y, r⟩⟩ <;> simp at this <;> first | exact ⟨_, _, _, rfl⟩ | omega
    have h0 := hc 0 x rfl
    have h1 := hc 1 y rfl
    rw [Nat.add_zero] at h0
    have hf := hl.from_ (k := 2) (by omega)
    have HF := Lib.hid hf
    have hx := x.toNat_lt
    have hy := y.toNat_lt
    clear hc hf
    go_enter Try.func71, Try.ntmps71
    go_wp2_with fail
    go_quiet (fail)
    go_wp2_with fail
    · have hc2 : c = 2 := by assumption
      go_ret2
      exact Took.mk (by have h2 := HF.out; rw [if_pos hc2, hc2] at h2; simpa [Addr.add] using h2) (or_num x y) _
    · have hc2 : ¬ c = 2 := by assumption
      go_ret2
      exact Took.mk (by have h2 := HF.out; rw [if_neg hc2] at h2; simpa [Addr.add] using h2) (or_num x y) _
end Go.Proofs.Ytamdpinfbadflaa.AskW
