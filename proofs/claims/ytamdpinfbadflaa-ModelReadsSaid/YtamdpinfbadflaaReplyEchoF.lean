/- Plain facts on echoes, and on what fits. -/
import Derived.Test.YtamdpinfbadflaaReplyEcho
namespace Go.Proofs.Ytamdpinfbadflaa.ReplyW
open AskM ReplyM

theorem wrong_right (f x : UInt8) : rrightN (wrongN f x) = (decide (1 ≤ x.toNat) && decide (x.toNat ≤ 4)) := by
  unfold rrightN kindForN
  by_cases hx : 0 < x.toNat
  · have h1 : (wrongN f x).ex = x := rfl
    rw [h1, if_pos hx]
    show rightK .exc (wrongN f x) = _
    unfold rightK
    have h2 : wrongN f x = onlyK .exc (wrongN f x) := by
      unfold onlyK wrongN
      have h3 : f % 128 = f % 128 % 128 := by
        apply UInt8.toNat_inj.1
        rw [UInt8.toNat_mod, UInt8.toNat_mod]
        show f.toNat % 128 = f.toNat % 128 % 128
        omega
      show (⟨f % 128, x, [], [], 0, 0⟩ : Rep) = ⟨f % 128 % 128, x, [], [], 0, 0⟩
      rw [← h3]
    rw [decide_eq_true h2, Bool.and_true]
    rfl
  · have h1 : (wrongN f x).ex = x := rfl
    rw [h1, if_neg hx]
    have hc : ∀ k, countK k (wrongN f x) = false := by
      intro k
      have h0 : x.toNat = 0 := by omega
      cases k
      · show (decide (1 ≤ x.toNat) && decide (x.toNat ≤ 4)) = false
        rw [h0]; rfl
      all_goals simp [countK, wrongN]
    have hR : (decide (1 ≤ x.toNat) && decide (x.toNat ≤ 4)) = false := by simp; omega
    rw [hR]
    cases kindOfN (wrongN f x).fn.toNat with
    | none => rfl
    | some k => show rightK k _ = false; unfold rightK; rw [hc]; rfl
theorem right_le {a : Req} (h : rightN a = true) : a.fn.toNat ≤ 23 := by
  rcases right_fn h with h | h | h <;> omega
theorem mod_le {f : UInt8} (h : f.toNat ≤ 23) : f % 128 = f := by
  apply UInt8.toNat_inj.1
  rw [UInt8.toNat_mod]
  show f.toNat % 128 = f.toNat
  omega
theorem fits_wrong {a : Req} (h : rightN a = true) (x : UInt8) : fitsN a (wrongN a.fn x) = (decide (1 ≤ x.toNat) && decide (x.toNat ≤ 4)) := by
  have hm := mod_le (right_le h)
  have hw := wrong_right a.fn x
  have hfn : (wrongN a.fn x).fn = a.fn := hm
  have hex : (wrongN a.fn x).ex = x := rfl
  have key : ∀ z : Bool, (rightN a && rrightN (wrongN a.fn x) && decide (a.fn = (wrongN a.fn x).fn) && (decide (0 < (wrongN a.fn x).ex.toNat) || z)) = (decide (1 ≤ x.toNat) && decide (x.toNat ≤ 4)) := by
    intro z
    rw [h, hw, hfn, hex]
    by_cases h1 : 1 ≤ x.toNat
    · rw [decide_eq_true h1, decide_eq_true (show 0 < x.toNat by omega)]; simp
    · rw [decide_eq_false h1]; simp
  unfold fitsN
  rcases right_fn h with h1 | h1 | h1
  · rw [if_pos h1]; exact key _
  · rw [if_neg (by omega), if_pos h1]; exact key _
  · rw [if_neg (by omega), if_neg (by omega), if_pos h1]; exact key _
theorem fits_fn {a : Req} {r : Rep} (h : a.fn ≠ r.fn) : fitsN a r = false := by
  have hd := decide_eq_false h
  unfold fitsN fitsBits fitsWords fitsEcho
  rw [hd]
  simp
theorem fits_other {a : Req} (h : rightN a = true) : fitsN a (wrongN (a.fn + 1) 1) = false := by
  have hl := right_le h
  refine fits_fn fun e => ?_
  have h1 : a.fn.toNat = ((a.fn + 1) % 128).toNat := congrArg UInt8.toNat e
  rw [UInt8.toNat_mod, UInt8.toNat_add] at h1
  have h2 : (1 : UInt8).toNat = 1 := rfl
  have h3 : (128 : UInt8).toNat = 128 := rfl
  rw [h2, h3] at h1
  omega
theorem right_row {a : Req} (h : rightN a = true) : ∃ F, rowN a.fn.toNat = some F ∧ fitN F a = true := by
  unfold rightN at h
  cases hr : rowN a.fn.toNat with
  | none => rw [hr] at h; cases h
  | some F => rw [hr] at h; exact ⟨F, rfl, h⟩
theorem echo_right {a : Req} (h : rightN a = true) {q : Rep} (hq : echoN a = some q) : rrightN q = true ∧ q.fn = a.fn ∧ q.at_ = a.at_ ∧ q.ex = 0 := by
  obtain ⟨F, hr, hf⟩ := right_row h
  have hff := fit_facts hf
  unfold echoN at hq
  rw [if_neg (by rw [h]; simp)] at hq
  have hrc := rowN_cases hr
  by_cases g5 : a.fn.toNat = 5
  · rw [if_pos g5] at hq
    injection hq with hq
    subst hq
    refine ⟨?_, rfl, rfl, rfl⟩
    obtain rfl : F = ⟨0, 1, 0, false⟩ := by rcases hrc with h | h | h | h | h | h | h <;> first | (exact h.2) | (exfalso; omega)
    unfold rrightN kindForN
    simp only [show ¬ (0 < (0 : UInt8).toNat) by decide, if_false, g5]
    show rightK .bitW _ = true
    unfold rightK countK onlyK
    have : a.bits.length = 1 := by have := hff.2.2.1; have := hff.2.2.2.1; simp at *; omega
    simp [this]
  rw [if_neg g5] at hq
  by_cases g6 : a.fn.toNat = 6
  · rw [if_pos g6] at hq
    injection hq with hq
    subst hq
    refine ⟨?_, rfl, rfl, rfl⟩
    obtain rfl : F = ⟨0, 0, 1, false⟩ := by rcases hrc with h | h | h | h | h | h | h <;> first | (exact h.2) | (exfalso; omega)
    unfold rrightN kindForN
    simp only [show ¬ (0 < (0 : UInt8).toNat) by decide, if_false, g6]
    show rightK .wordW _ = true
    unfold rightK countK onlyK
    have : a.words.length = 1 := by have := hff.2.2.2.2.1; have := hff.2.2.2.2.2.1; simp at *; omega
    simp [this]
  rw [if_neg g6] at hq
  by_cases g15 : a.fn.toNat = 15
  · rw [if_pos (.inl g15)] at hq
    injection hq with hq
    subst hq
    refine ⟨?_, rfl, rfl, rfl⟩
    obtain rfl : F = ⟨1968, 1968, 0, false⟩ := by rcases hrc with h | h | h | h | h | h | h <;> first | (exact h.2) | (exfalso; omega)
    unfold rrightN kindForN
    simp only [show ¬ (0 < (0 : UInt8).toNat) by decide, if_false, g15]
    show rightK (.listW 1968) _ = true
    unfold rightK countK onlyK
    have h1 := hff.1
    have h2 := hff.2.1
    simp at h1 h2 ⊢
    omega
  by_cases g16 : a.fn.toNat = 16
  · rw [if_pos (.inr g16)] at hq
    injection hq with hq
    subst hq
    refine ⟨?_, rfl, rfl, rfl⟩
    obtain rfl : F = ⟨123, 0, 123, false⟩ := by rcases hrc with h | h | h | h | h | h | h <;> first | (exact h.2) | (exfalso; omega)
    unfold rrightN kindForN
    simp only [show ¬ (0 < (0 : UInt8).toNat) by decide, if_false, g16]
    show rightK (.listW 123) _ = true
    unfold rightK countK onlyK
    have h1 := hff.1
    have h2 := hff.2.1
    simp at h1 h2 ⊢
    omega
  rw [if_neg (fun h => h.elim g15 g16)] at hq
  cases hq
theorem echo_writes {a : Req} (h : rightN a = true) : (∃ q, echoN a = some q) ↔ (a.fn.toNat = 5 ∨ a.fn.toNat = 6 ∨ a.fn.toNat = 15 ∨ a.fn.toNat = 16) := by
  unfold echoN
  rw [if_neg (by rw [h]; simp)]
  by_cases g5 : a.fn.toNat = 5
  · rw [if_pos g5]; simp [g5]
  rw [if_neg g5]
  by_cases g6 : a.fn.toNat = 6
  · rw [if_pos g6]; simp [g6]
  rw [if_neg g6]
  by_cases g15 : a.fn.toNat = 15 ∨ a.fn.toNat = 16
  · rw [if_pos g15]; simp; omega
  · rw [if_neg g15]; simp; omega
theorem fits_echo {a : Req} (h : rightN a = true) {q : Rep} (hq : echoN a = some q) {r : Rep} (hx : r.ex.toNat = 0) : fitsN a r = decide (q = r) := by
  have hw := (echo_writes h).1 ⟨q, hq⟩
  obtain ⟨h1, h2, h3, h4⟩ := echo_right h hq
  unfold fitsN
  rw [if_neg (by omega), if_neg (by omega), if_pos hw]
  unfold fitsEcho
  rw [h, hq, decide_eq_false (show ¬ 0 < r.ex.toNat by omega)]
  by_cases e : q = r
  · subst e
    rw [h1, h2]
    simp
  · have : ¬ (some q = some r) := fun h => e (by injection h)
    rw [decide_eq_false e, decide_eq_false this]
    simp
end Go.Proofs.Ytamdpinfbadflaa.ReplyW
