/- Frames on a serial line: what package rtu makes, and opens. -/
import Derived.Test.YtiecncnmmecjcaaRtuReq
import Derived.Test.YtiecncnmmecjcaaBack
import Derived.Test.YtiecncnmmecjcaaAskA
open Go.RowKit
namespace Go.Proofs.Ytiecncnmmecjcaa.RtuW
open CrcM CrcW RtuM AskW Mem

theorem isUnit_any (u : UInt8) (w : World) : Calls Try.prog 71 #[b8 u] w fun e w' => e = .returned (.bool (unitB u)) ∧ w = w' := by
  have hu := u.toNat_lt
  by_cases h1 : 1 ≤ u.toNat
  · have t1 : decide ((1 : Int) ≤ (u.toNat : Int)) = true := by simp; omega
    go_enter Try.func71, Try.ntmps71
    go_wp2_with fail
    go_ret
    exact ⟨ret_bool (by unfold unitB; rw [decide_eq_true h1]; simp; omega), rfl⟩
  · have t1 : decide ((1 : Int) ≤ (u.toNat : Int)) = false := by simp; omega
    go_enter Try.func71, Try.ntmps71
    go_wp2_with fail
    go_ret
    exact ⟨ret_bool (by unfold unitB; rw [decide_eq_false h1]; simp), rfl⟩

theorem own_lower {w : World} {b b' : Nat} {T : TypeId} {v : Value} {n : Nat} {xs : List Value} (h : w.ownsRow b T 1 v n xs) (hb : b' ≤ b) : w.ownsRow b' T 1 v n xs := by
  refine ⟨h.1, ?_⟩
  rcases h.2 with h0 | ⟨g, cap, cur, h1, h2, h3⟩
  · exact .inl h0
  · exact .inr ⟨g, cap, cur, h1, Nat.le_trans hb h2, h3⟩
theorem own_one (w : World) (x : Value) (T : TypeId) : (w.alloc (.cells #[x] T)).ownsRow w.heap.size T 1 (.slice (some ⟨w.heap.size, 0, none⟩) 1 1) 1 [x] :=
  own_of_row (cs := [x]) (n := 1) (heap_alloc_new w (.cells #[x] T)) (Nat.le_refl _) (by simp; unfold maxLen; omega) (Nat.le_refl _)
/-- Bytes in a row that the call made, and an error's number. -/
def OwnGives (r : Nat × List UInt8) (w : World) (e : Ending) (w' : World) : Prop :=
  ∃ v, e = .returned (.tuple #[v, .int .i64 (r.1 : Int)]) ∧ w'.ownsRow w.heap.size 5 1 v r.2.length (r.2.map b8) ∧ Below w.heap.size w w'
theorem OwnGives.none_ {r : Nat × List UInt8} {w w' : World} {k : Nat} (hr : r = (k, [])) (h : Below w.heap.size w w') : OwnGives r w (.returned (.tuple #[.slice none 0 0, .int .i64 (k : Int)])) w' := by
  subst hr
  exact ⟨_, rfl, World.ownsRow_nil _ _ _ _, h⟩

theorem frame_bad {u : UInt8} {l : List UInt8} (h : unitB u = false ∨ l.length < 1 ∨ 253 < l.length) : frameR u l = (2, []) := by
  unfold frameR
  rw [if_neg]
  rintro ⟨h1, h2, h3⟩
  rcases h with h | h | h
  · rw [h] at h1; cases h1
  · omega
  · omega

set_option maxRecDepth 100000 in
set_option maxHeartbeats 1000000 in
theorem Bytes_own (u : UInt8) (a : Option Addr) (n c : Nat) (l : List UInt8) (w : World) (hl : Sl b8 w w.heap.size a n c l) :
    Calls Try.prog 44 #[b8 u, .slice a n c] w (OwnGives (frameR u l) w) := by
  have hlen := hl.len
  have hu := u.toNat_lt
  have hn := len_le hl
  cases hb : unitB u with
  | false =>
    have HR := Lib.hid (frame_bad (l := l) (.inl hb))
    go_enter Try.func44, Try.ntmps44
    go_wp2_with fail
    refine (isUnit_any u w).mono ?_
    rw [hb]
    rintro e w1 ⟨rfl, rfl⟩
    clear hb
    go_wp2_with fail
    go_ret2
    exact OwnGives.none_ HR.out (Below.refl _ _)
  | true =>
    have HU := Lib.hid hb
    clear hb
    by_cases h1 : n < 1
    · have HR := Lib.hid (frame_bad (u := u) (l := l) (.inr (.inl (by omega))))
      have t1 : decide ((n : Int) < 1) = true := by simp; omega
      clear h1
      go_enter Try.func44, Try.ntmps44
      go_wp2_with fail
      refine (isUnit_any u w).mono ?_
      rw [HU.out]
      rintro e w1 ⟨rfl, rfl⟩
      go_wp2_with fail
      go_ret2
      exact OwnGives.none_ HR.out (Below.refl _ _)
    have t1 : decide ((n : Int) < 1) = false := by simp; omega
    by_cases h2 : 253 < n
    · have HR := Lib.hid (frame_bad (u := u) (l := l) (.inr (.inr (by omega))))
      have t2 : decide (253 < (n : Int)) = true := by simp; omega
      clear h1 h2
      go_enter Try.func44, Try.ntmps44
      go_wp2_with fail
      refine (isUnit_any u w).mono ?_
      rw [HU.out]
      rintro e w1 ⟨rfl, rfl⟩
      go_wp2_with fail
      go_ret2
      exact OwnGives.none_ HR.out (Below.refl _ _)
    have t2 : decide (253 < (n : Int)) = false := by simp; omega
    have HR : Hid (frameR u l = (0, putN (u :: l))) := by unfold Hid frameR; rw [if_pos ⟨HU.out, by omega, by omega⟩]
    obtain ⟨i0, hi, hz0, hz1, hz2⟩ := info_parts info8
    have hz2' : i0.bytes = 1 := hz2
    have HL := Lib.hid hl
    clear hl
    go_enter Try.func44, Try.ntmps44
    go_wp2_with fail
    refine (isUnit_any u w).mono ?_
    rw [HU.out]
    rintro e w1 ⟨rfl, rfl⟩
    go_wp2_with (at_builtin; go_loud (refine wpList_append_sl (f := b8) b8_one rfl (.tmp 20) (.tmp 21) 27 rfl w.heap.size 5 i0 (.int .u8 0) 1 Try.underlying27 hi hz0 hz1 hz2' rfl (.slice (some ⟨w.heap.size, 0, none⟩) 1 1) 1 [b8 u] rfl (own_one w (b8 u) _) a n c rfl (HL.out.alloc (Nat.le_refl _) _) (by unfold maxLen; omega) (by omega) (by simp) ?_; intro v4 w4 hown4 hgrow4; rw [show [b8 u] ++ l.map b8 = (u :: l).map b8 from rfl] at hown4; have HW4 := Lib.hid (((Below.refl w.heap.size w).alloc (Nat.le_refl _) (.cells #[b8 u] 5)).grown hgrow4 (by simp) (by simp [Value.ownBlock])); obtain ⟨g, cap, hv4, hg1, hg2, hov, hSg⟩ := own_at hown4 (by omega); subst hv4; clear hown4 hgrow4 hov))
    refine (Put_own _ _ _ _ _ hSg (by omega)).mono ?_
    rintro e w5 ⟨v, rfl, hown, hb⟩
    go_wp2_with fail
    go_ret2
    rw [HR.out]
    refine ⟨v, rfl, ?_, HW4.out.trans (hb.mono HW4.out.size)⟩
    rw [show (putN (u :: l)).length = 1 + n + 2 by rw [putN_length, List.length_cons, hlen]; omega]
    exact own_lower hown HW4.out.size
end Go.Proofs.Ytiecncnmmecjcaa.RtuW
