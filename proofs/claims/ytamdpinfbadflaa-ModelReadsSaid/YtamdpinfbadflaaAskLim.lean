/- Plain facts: how many may be read, or written. -/
import Derived.Test.YtamdpinfbadflaaAskReq
namespace Go.Proofs.Ytamdpinfbadflaa.AskM

theorem lim_plain {c : UInt8} {most : Nat} (hc : rowN c.toNat = some ⟨most, 0, 0, false⟩) (hm : 1 ≤ most) (a m : UInt16) : rightN ⟨c, a, m, 0, [], []⟩ = (decide (1 ≤ m.toNat) && decide (m.toNat ≤ most)) := by
  unfold rightN
  simp only [hc]
  have h1 : min 1 most = 1 := by omega
  simp [fitN, within, listed, h1]
theorem lim_bits (a m : UInt16) (l : List Bool) (hl : l.length = m.toNat) : rightN ⟨15, a, m, 0, [], l⟩ = (decide (1 ≤ m.toNat) && decide (m.toNat ≤ 1968)) := by
  have hc : rowN (15 : UInt8).toNat = some ⟨1968, 1968, 0, false⟩ := rfl
  unfold rightN
  simp only [hc]
  simp [fitN, within, listed, hl]
theorem lim_words (a m : UInt16) (l : List UInt16) (hl : l.length = m.toNat) : rightN ⟨16, a, m, 0, l, []⟩ = (decide (1 ≤ m.toNat) && decide (m.toNat ≤ 123)) := by
  have hc : rowN (16 : UInt8).toNat = some ⟨123, 0, 123, false⟩ := rfl
  unfold rightN
  simp only [hc]
  simp [fitN, within, listed, hl]
theorem lim_not (a m : UInt16) (l : List UInt16) (hl : l.length ≠ m.toNat) : rightN ⟨16, a, m, 0, l, []⟩ = false := by
  have hc : rowN (16 : UInt8).toNat = some ⟨123, 0, 123, false⟩ := rfl
  unfold rightN
  simp only [hc]
  simp [fitN, within, listed, hl]
theorem lim_many (a m t x : UInt16) : rightN ⟨23, a, m, t, [x], []⟩ = (decide (1 ≤ m.toNat) && decide (m.toNat ≤ 125)) := by
  have hc : rowN (23 : UInt8).toNat = some ⟨125, 0, 121, true⟩ := rfl
  unfold rightN
  simp only [hc]
  simp [fitN, within, listed]
theorem lim_to (a t : UInt16) (l : List UInt16) : rightN ⟨23, a, 1, t, l, []⟩ = (decide (1 ≤ l.length) && decide (l.length ≤ 121)) := by
  have hc : rowN (23 : UInt8).toNat = some ⟨125, 0, 121, true⟩ := rfl
  unfold rightN
  simp only [hc]
  simp [fitN, within, listed]
theorem lim_bit (a : UInt16) (l : List Bool) : rightN ⟨5, a, 0, 0, [], l⟩ = decide (l.length = 1) := by
  have hc : rowN (5 : UInt8).toNat = some ⟨0, 1, 0, false⟩ := rfl
  unfold rightN
  simp only [hc]
  have h : decide (l.length = 1) = (decide (1 ≤ l.length) && decide (l.length ≤ 1)) := by
    rw [Bool.eq_iff_iff]; simp; omega
  rw [h]
  simp [fitN, within, listed]
theorem lim_word (a : UInt16) (l : List UInt16) : rightN ⟨6, a, 0, 0, l, []⟩ = decide (l.length = 1) := by
  have hc : rowN (6 : UInt8).toNat = some ⟨0, 0, 1, false⟩ := rfl
  unfold rightN
  simp only [hc]
  have h : decide (l.length = 1) = (decide (1 ≤ l.length) && decide (l.length ≤ 1)) := by
    rw [Bool.eq_iff_iff]; simp; omega
  rw [h]
  simp [fitN, within, listed]
theorem lim_to1 : rightN ⟨3, 0, 1, 1, [], []⟩ = false := by decide
theorem lim_many1 (x : UInt16) : rightN ⟨6, 0, 1, 0, [x], []⟩ = false := by
  have hc : rowN (6 : UInt8).toNat = some ⟨0, 0, 1, false⟩ := rfl
  unfold rightN
  simp only [hc]
  simp [fitN, within, listed]
end Go.Proofs.Ytamdpinfbadflaa.AskM
