/- The document's own reading of a reply, plainly: the candidate that bytes are read as. -/
import Derived.Test.YtenfcpdoingdeaaReplyReq
namespace Go.Proofs.Ytenfcpdoingdeaa.ReplyM
open AskM

/-- The only reply that bytes may be of, as the document's own answer reads it. -/
def candR (b : List UInt8) : Rep :=
  if 128 ≤ (b.getD 0 0).toNat then ⟨b.getD 0 0 - 128, b.getD 1 0, [], [], 0, 0⟩
  else if (b.getD 0 0).toNat = 1 ∨ (b.getD 0 0).toNat = 2 then ⟨b.getD 0 0, 0, unpackN (b.drop 2), [], 0, 0⟩
  else if (b.getD 0 0).toNat = 3 ∨ (b.getD 0 0).toNat = 4 ∨ (b.getD 0 0).toNat = 23 then ⟨b.getD 0 0, 0, [], numsN (b.drop 2), 0, 0⟩
  else if (b.getD 0 0).toNat = 5 then ⟨b.getD 0 0, 0, [decide (at16 b 3 = 65280)], [], at16 b 1, 0⟩
  else if (b.getD 0 0).toNat = 6 then ⟨b.getD 0 0, 0, [], [at16 b 3], at16 b 1, 0⟩
  else if (b.getD 0 0).toNat = 15 ∨ (b.getD 0 0).toNat = 16 then ⟨b.getD 0 0, 0, [], [], at16 b 1, at16 b 3⟩
  else ⟨b.getD 0 0, 0, [], [], 0, 0⟩
theorem sub128 {x : UInt8} (h : 128 ≤ x.toNat) : x % 128 = x - 128 := by
  apply UInt8.toNat_inj.1
  have := x.toNat_lt
  rw [UInt8.toNat_mod, UInt8.toNat_sub]
  show x.toNat % 128 = (256 - 128 + x.toNat) % 256
  omega
theorem read_cand {k : Kind} {b : List UInt8} {r : Rep} (hk : kindOfN (b.getD 0 0).toNat = some k) (hr : readK k b = some r) : r = candR b := by
  rcases kindOf_cases hk with ⟨hc, rfl⟩ | ⟨hc, rfl⟩ | ⟨hc, rfl⟩ | ⟨hc, rfl⟩ | ⟨hc, rfl⟩ | ⟨hc, rfl⟩ | ⟨hc, rfl⟩
  all_goals
    unfold readK at hr
    simp only at hr
    split at hr
    case isFalse => cases hr
    injection hr with hr
    subst hr
    unfold candR
  · rw [if_pos hc]; unfold wrongN; rw [sub128 hc]
  · rw [if_neg (by omega), if_pos hc]
  · rw [if_neg (by omega), if_neg (by omega), if_pos hc]
  · rw [if_neg (by omega), if_neg (by omega), if_neg (by omega), if_pos hc]
  · rw [if_neg (by omega), if_neg (by omega), if_neg (by omega), if_neg (by omega), if_pos hc]
  · rw [if_neg (by omega), if_neg (by omega), if_neg (by omega), if_neg (by omega), if_neg (by omega), if_pos (by omega)]
  · rw [if_neg (by omega), if_neg (by omega), if_neg (by omega), if_neg (by omega), if_neg (by omega), if_pos (by omega)]
/-- The candidate is the reply that the bytes are of, or no reply has these bytes. -/
theorem candR_parse (b : List UInt8) : (rparseN b = some (candR b) ∧ rbytesN (candR b) = some b) ∨ (rparseN b = none ∧ rbytesN (candR b) ≠ some b) := by
  cases hp : rparseN b with
  | none =>
    refine .inr ⟨rfl, fun h => ?_⟩
    rw [rparse_iff.2 h] at hp
    cases hp
  | some a =>
    left
    have hb := rparse_iff.1 hp
    have hc : a = candR b := by
      unfold rparseN at hp
      split at hp
      case isTrue => cases hp
      split at hp
      case h_1 => cases hp
      rename_i k hk
      split at hp
      case h_1 => cases hp
      rename_i r hr
      split at hp
      case isFalse => cases hp
      injection hp with hp
      subst hp
      exact read_cand hk hr
    subst hc
    exact ⟨rfl, hb⟩
theorem rparse_short {l : List UInt8} (h : l.length < 2) : rparseN l = none := by
  cases hp : rparseN l with
  | none => rfl
  | some a =>
    have hb := rparse_iff.1 hp
    have := (rbytes_facts hb).2.1
    omega
end Go.Proofs.Ytenfcpdoingdeaa.ReplyM
