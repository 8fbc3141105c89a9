/- The document's own reading of a request, plainly: the candidate that bytes are read as. -/
import Derived.Test.YtenfcpdoingdeaaAskReq
namespace Go.Proofs.Ytenfcpdoingdeaa.AskM

/-- The only request that bytes may be of, as the document's own answer reads it. -/
def candN (b : List UInt8) : Req :=
  { fn := b.getD 0 0, at_ := at16 b 1, many := if (b.getD 0 0).toNat = 5 ∨ (b.getD 0 0).toNat = 6 then 0 else at16 b 3, to_ := if (b.getD 0 0).toNat = 23 then at16 b 5 else 0,
    words := if (b.getD 0 0).toNat = 6 then [at16 b 3] else if (b.getD 0 0).toNat = 16 then numsN (b.drop 6) else if (b.getD 0 0).toNat = 23 then numsN (b.drop 10) else [],
    bits := if (b.getD 0 0).toNat = 5 then [decide (at16 b 3 = 65280)] else if (b.getD 0 0).toNat = 15 then (unpackN (b.drop 6)).take (at16 b 3).toNat else [] }
theorem nums_two {b : List UInt8} (h : b.length = 5) : numsN (b.drop 3) = [at16 b 3] := by
  match b, h with
  | [x0, x1, x2, x3, x4], _ => rfl
theorem cand_read {b : List UInt8} {F : Row} (hr : rowN (b.getD 0 0).toNat = some F) (hn : b.length = needs b) : candN b = readN F b := by
  rcases rowN_cases hr with ⟨hc | hc, rfl⟩ | ⟨hc | hc, rfl⟩ | ⟨hc, rfl⟩ | ⟨hc, rfl⟩ | ⟨hc, rfl⟩ | ⟨hc, rfl⟩ | ⟨hc, rfl⟩
  all_goals
    simp only [candN, readN, fromN, listed, hc]
    try simp
  have h5 : b.length = 5 := by rw [hn]; unfold needs; simp only [hc]; rfl
  exact (nums_two h5).symm
/-- The candidate is the request that the bytes are of, or no request has these bytes. -/
theorem cand_parse (b : List UInt8) : (parseN b = some (candN b) ∧ bytesN (candN b) = some b) ∨ (parseN b = none ∧ bytesN (candN b) ≠ some b) := by
  cases hp : parseN b with
  | none => exact .inr ⟨rfl, parse_none.1 hp _⟩
  | some a =>
    left
    have hb := parse_iff.1 hp
    obtain ⟨h1, _, _, h4⟩ := bytes_facts hb
    obtain ⟨F, hF, hfit, hw⟩ := bytesN_some.1 hb
    have hr := read_write hF hfit
    rw [hw] at hr
    have hc := cand_read (b := b) (F := F) (by rw [h4]; exact hF) h1
    rw [hr] at hc
    rw [hc]
    exact ⟨rfl, hb⟩
end Go.Proofs.Ytenfcpdoingdeaa.AskM
