/- Plain facts: which replies fit what is read. -/
import Derived.Test.YtamdpinfbadflaaAskLim
import Derived.Test.YtamdpinfbadflaaReplyEcho
namespace Go.Proofs.Ytamdpinfbadflaa.ReplyW
open AskM ReplyM AskW Mem

theorem rright_words {c : UInt8} (hk : kindOfN c.toNat = some .wordsR) (l : List UInt16) : rrightN ⟨c, 0, [], l, 0, 0⟩ = (decide (1 ≤ l.length) && decide (l.length ≤ 125)) := by
  unfold rrightN kindForN
  rw [if_neg (by simp)]
  simp only [hk]
  unfold rightK
  simp [countK, onlyK]
theorem rright_bits {c : UInt8} (hk : kindOfN c.toNat = some .bitsR) (l : List Bool) : rrightN ⟨c, 0, l, [], 0, 0⟩ = (decide (8 ≤ l.length) && decide (l.length ≤ 2000) && decide (l.length % 8 = 0)) := by
  unfold rrightN kindForN
  rw [if_neg (by simp)]
  simp only [hk]
  unfold rightK
  simp [countK, onlyK]
def wantW (n m : Nat) : Bool := decide (n = m) && decide (1 ≤ m) && decide (m ≤ 125)
def wantB (l : List Bool) (m : Nat) : Bool := decide (1 ≤ m) && decide (m ≤ 2000) && decide (l.length = (m + 7) / 8 * 8) && !anyOn (l.drop m)
theorem reads_words {a : Req} {c : UInt8} (hc : a.fn = c) (hk : kindOfN c.toNat = some .wordsR) (hr : rightN a = (decide (1 ≤ a.many.toNat) && decide (a.many.toNat ≤ 125))) (l : List UInt16) : fitsWords a ⟨c, 0, [], l, 0, 0⟩ = wantW l.length a.many.toNat := by
  unfold fitsWords wantW
  rw [hr, rright_words hk, hc, Bool.eq_iff_iff]
  simp
  omega
theorem reads_bits {a : Req} {c : UInt8} (hc : a.fn = c) (hk : kindOfN c.toNat = some .bitsR) (hr : rightN a = (decide (1 ≤ a.many.toNat) && decide (a.many.toNat ≤ 2000))) (l : List Bool) : fitsBits a ⟨c, 0, l, [], 0, 0⟩ = wantB l a.many.toNat := by
  unfold fitsBits wantB filledN
  rw [hr, rright_bits hk, hc]
  generalize anyOn (l.drop a.many.toNat) = z
  rw [Bool.eq_iff_iff]
  cases z <;> simp
  omega
end Go.Proofs.Ytamdpinfbadflaa.ReplyW
