/- What is opened of a frame. -/
import Derived.Test.YtiecncnmmecjcaaRtuA
open Go.RowKit
namespace Go.Proofs.Ytiecncnmmecjcaa.RtuW
open CrcM CrcW RtuM AskW Mem

/-- What is opened of a frame, in memory of its own. -/
def OpenGives (r : Nat × UInt8 × List UInt8) (w : World) (e : Ending) (w' : World) : Prop :=
  ∃ a c, e = .returned (.tuple #[b8 r.2.1, .slice a r.2.2.length c, .int .i64 (r.1 : Int)]) ∧ Sl b8 w' w'.heap.size a r.2.2.length c r.2.2 ∧ Below w.heap.size w w' ∧ ∀ x : Addr, a = some x → w.heap.size ≤ x.block
theorem OpenGives.none_ {r : Nat × UInt8 × List UInt8} {w w' : World} {k : Nat} (hr : r = (k, 0, [])) (h : Below w.heap.size w w') : OpenGives r w (.returned (.tuple #[.int .u8 0, .slice none 0 0, .int .i64 (k : Int)])) w' := by
  subst hr
  exact ⟨none, 0, rfl, Sl.none_, h, fun _ h => by cases h⟩

theorem open_len {b : List UInt8} (h : b.length < 4 ∨ 256 < b.length) : openR b = (10, 0, []) := by unfold openR; rw [if_pos h]
theorem open_cut {b : List UInt8} {k : Nat} {l : List UInt8} (h : ¬ (b.length < 4 ∨ 256 < b.length)) (hc : cutN b = (k + 1, l)) : openR b = (k + 1, 0, []) := by unfold openR; rw [if_neg h, hc]
theorem open_unit {b : List UInt8} {u : UInt8} {l : List UInt8} (h : ¬ (b.length < 4 ∨ 256 < b.length)) (hc : cutN b = (0, u :: l)) (hu : unitB u = false) : openR b = (10, 0, []) := by unfold openR; rw [if_neg h, hc]; simp [hu]
theorem open_ok {b : List UInt8} {u : UInt8} {l : List UInt8} (h : ¬ (b.length < 4 ∨ 256 < b.length)) (hc : cutN b = (0, u :: l)) (hu : unitB u = true) : openR b = (0, u, l) := by unfold openR; rw [if_neg h, hc]; simp [hu]

set_option maxRecDepth 100000 in
set_option maxHeartbeats 1000000 in
theorem Parse_any (a : Option Addr) (n c : Nat) (b : List UInt8) (w : World) (hl : Sl b8 w w.heap.size a n c b) :
    Calls Try.prog 46 #[.slice a n c] w (OpenGives (openR b) w) := by
  have hlen := hl.len
  have hn := len_le hl
  by_cases h1 : n < 4
  · have HR := Lib.hid (open_len (b := b) (.inl (by omega)))
    have t1 : decide ((n : Int) < 4) = true := by simp; omega
    clear h1
    go_enter Try.func46, Try.ntmps46
    go_wp2_with fail
    go_ret3
    exact OpenGives.none_ HR.out (Below.refl _ _)
  have t1 : decide ((n : Int) < 4) = false := by simp; omega
  by_cases h2 : 256 < n
  · have HR := Lib.hid (open_len (b := b) (.inr (by omega)))
    have t2 : decide (256 < (n : Int)) = true := by simp; omega
    clear h1 h2
    go_enter Try.func46, Try.ntmps46
    go_wp2_with fail
    go_ret3
    exact OpenGives.none_ HR.out (Below.refl _ _)
  have t2 : decide (256 < (n : Int)) = false := by simp; omega
  have hb : ¬ (b.length < 4 ∨ 256 < b.length) := by omega
  have hcs := cut_sum (b := b) (by omega)
  have hC := Cut_own a n c b w hl (by omega)
  cases hk : cutN b with
  | mk k m =>
    rw [hk] at hC
    cases k with
    | succ k =>
      have hk10 : k = 10 := by rw [hk] at hcs; simp only at hcs; split at hcs <;> omega
      subst hk10
      have HR := Lib.hid (open_cut hb hk)
      have HC := Lib.hid hC
      clear h1 h2 hb hcs hC hk
      go_enter Try.func46, Try.ntmps46
      go_wp2_with fail
      refine HC.out.mono ?_
      rintro e w1 ⟨a1, c1, rfl, -, hb1, -⟩
      go_wp2_with fail
      go_ret3
      exact OpenGives.none_ HR.out hb1
    | zero =>
      have hm : m.length + 2 = n := by
        have h := put_cut hk
        rw [← hlen, ← h, putN_length]
      obtain ⟨u, l, rfl⟩ : ∃ u l, m = u :: l := by
        cases m with
        | nil => simp at hm; omega
        | cons u l => exact ⟨u, l, rfl⟩
      rw [List.length_cons] at hm
      cases hu : unitB u with
      | false =>
        have HR := Lib.hid (open_unit hb hk hu)
        have HC := Lib.hid hC
        have HU := Lib.hid hu
        clear h1 h2 hb hcs hC hk hu
        go_enter Try.func46, Try.ntmps46
        go_wp2_with fail
        refine HC.out.mono ?_
        rintro e w1 ⟨a1, c1, rfl, hs, hb1, -⟩
        obtain ⟨bb, off, rfl, -, hcell⟩ := hs.cells (by simp)
        have h0 := hcell 0 u rfl
        rw [Nat.add_zero] at h0
        clear hcell hs
        simp only [List.length_cons] at *
        go_wp2_with fail
        refine (isUnit_any u _).mono ?_
        rw [HU.out]
        rintro e w2 ⟨rfl, rfl⟩
        go_wp2_with fail
        go_ret3
        exact OpenGives.none_ HR.out hb1
      | true =>
        obtain ⟨y, l, rfl⟩ : ∃ y l', l = y :: l' := by
          cases l with
          | nil => simp at hm; omega
          | cons y l => exact ⟨y, l, rfl⟩
        rw [List.length_cons] at hm
        have HR := Lib.hid (open_ok hb hk hu)
        have HC := Lib.hid hC
        have HU := Lib.hid hu
        clear h1 h2 hb hcs hC hk hu
        go_enter Try.func46, Try.ntmps46
        go_wp2_with fail
        refine HC.out.mono ?_
        rintro e w1 ⟨a1, c1, rfl, hs, hb1, hx⟩
        have hc1 : l.length + 1 + 1 ≤ c1 := by have := hs.nle; simpa using this
        have hc2 : c1 ≤ 9223372036854775807 := by have := hs.cle; unfold maxLen at this; exact this
        obtain ⟨bb, off, rfl, -, hcell⟩ := hs.cells (by simp)
        have h0 := hcell 0 u rfl
        rw [Nat.add_zero] at h0
        have HX := Lib.hid hx
        have HB := Lib.hid hb1
        have HS := Lib.hid hs
        clear hcell hs hx hb1
        simp only [List.length_cons] at *
        go_wp2_with fail
        refine (isUnit_any u _).mono ?_
        rw [HU.out]
        rintro e w2 ⟨rfl, rfl⟩
        go_wp2_with fail
        go_region
        go_wp2_with fail
        go_ret3
        rw [HR.out]
        refine ⟨_, _, rfl, ?_, HB.out.drew, fun x hx => ?_⟩
        · obtain ⟨b', off', he, hlt, hcell⟩ := HS.out.cells (by simp)
          injection he with he
          injection he with he1 he2
          subst he1 he2
          refine ⟨rfl, Nat.le_refl _, by unfold maxLen; omega, (fun h => by cases h), fun hn => ⟨bb, off + 1, rfl, hlt, fun i x hx => ?_⟩⟩
          · have h := hcell (i + 1) x hx
            rw [Nat.add_assoc, Nat.add_comm 1 i]
            exact h
        · injection hx with hx
          subst hx
          exact HX.out ⟨bb, off, none⟩ rfl
end Go.Proofs.Ytiecncnmmecjcaa.RtuW
