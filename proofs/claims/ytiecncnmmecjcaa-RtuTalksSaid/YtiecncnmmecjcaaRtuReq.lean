/- Frames on a serial line, as plain functions of bytes. -/
import Derived.Test.YtiecncnmmecjcaaCrcKit
import Derived.Test.YtiecncnmmecjcaaReplyReq
namespace Go.Proofs.Ytiecncnmmecjcaa.RtuM
open CrcM CrcW ReplyM
open AskM hiding putN

def unitB (u : UInt8) : Bool := decide (1 ≤ u.toNat) && decide (u.toNat ≤ 247)
/-- The error's number, and the frame. -/
def frameR (u : UInt8) (l : List UInt8) : Nat × List UInt8 := if unitB u = true ∧ 1 ≤ l.length ∧ l.length ≤ 253 then (0, putN (u :: l)) else (2, [])
/-- The error's number, the unit, and what is within. -/
def openR (b : List UInt8) : Nat × UInt8 × List UInt8 :=
  if b.length < 4 ∨ 256 < b.length then (10, 0, [])
  else match cutN b with
    | (0, u :: l) => if unitB u = true then (0, u, l) else (10, 0, [])
    | (0, []) => (10, 0, [])
    | (k + 1, _) => (k + 1, 0, [])
def askR (u : UInt8) (a : Req) : Nat × List UInt8 := match bytesN a with
  | some b => frameR u b
  | none => (12, [])
def replyR (u : UInt8) (b : List UInt8) : Nat × Option Rep :=
  if (openR b).1 ≠ 0 then ((openR b).1, none)
  else if (openR b).2.1 ≠ u then (10, none)
  else match rparseN (openR b).2.2 with
    | some q => (0, some q)
    | none => (13, none)

theorem putN_length (l : List UInt8) : (putN l).length = l.length + 2 := by simp [putN, tail2]
theorem cut_put (l : List UInt8) : cutN (putN l) = (0, l) := by
  have h1 : (putN l).drop ((putN l).length - 2) = tail2 (sumN l) := by
    rw [putN_length, show l.length + 2 - 2 = l.length by omega]; unfold putN; simp
  have h2 : (putN l).take ((putN l).length - 2) = l := by
    rw [putN_length, show l.length + 2 - 2 = l.length by omega]; unfold putN; simp
  unfold cutN
  rw [if_neg (by rw [putN_length]; omega), h2, h1, if_pos rfl]
theorem put_cut {b l : List UInt8} (h : cutN b = (0, l)) : putN l = b := by
  unfold cutN at h
  split at h
  · cases h
  split at h
  · rename_i h2
    injection h with _ h
    subst h
    unfold putN
    rw [← h2, List.take_append_drop]
  · cases h
theorem cut_sum {b : List UInt8} (hb : 2 ≤ b.length) : (cutN b).1 = if sumN b = 0 then 0 else 11 := by
  obtain ⟨l, x, y, rfl⟩ : ∃ l x y, b = l ++ [x, y] := by
    have hd : (b.drop (b.length - 2)).length = 2 := by rw [List.length_drop]; omega
    match hm : b.drop (b.length - 2), hd with
    | [x, y], _ => exact ⟨b.take (b.length - 2), x, y, by rw [← hm, List.take_append_drop]⟩
  have h1 : (l ++ [x, y]).take ((l ++ [x, y]).length - 2) = l := by simp
  have h2 : (l ++ [x, y]).drop ((l ++ [x, y]).length - 2) = [x, y] := by simp
  have h3 : sumN (l ++ [x, y]) = sumFrom (sumN l) [x, y] := sumFrom_append ..
  unfold cutN
  rw [if_neg (by omega), h1, h2, h3]
  by_cases h : [x, y] = tail2 (sumN l)
  · rw [if_pos h, if_pos (by rw [h]; exact sumFrom_own (sumN_lt l))]
  · rw [if_neg h, if_neg (fun h0 => h ((tail2_eq x y _ (sumN_lt l)).2 (sum_two (sumN_lt l) h0)))]
theorem put_sum (l : List UInt8) : sumN (putN l) = 0 := sumN_own l

theorem frame_ok {u : UInt8} {l b : List UInt8} (h : frameR u l = (0, b)) : unitB u = true ∧ 1 ≤ l.length ∧ l.length ≤ 253 ∧ b = putN (u :: l) := by
  unfold frameR at h
  split at h
  · rename_i hc
    injection h with _ h
    exact ⟨hc.1, hc.2.1, hc.2.2, h.symm⟩
  · cases h
theorem frame_cases (u : UInt8) (l : List UInt8) : (∃ b, frameR u l = (0, b) ∧ b.length = l.length + 3) ∨ (frameR u l = (2, []) ∧ ¬ (unitB u = true ∧ 1 ≤ l.length ∧ l.length ≤ 253)) := by
  unfold frameR
  split
  · exact .inl ⟨_, rfl, by rw [putN_length, List.length_cons]⟩
  · rename_i h
    exact .inr ⟨rfl, h⟩
theorem open_frame {u : UInt8} {l b : List UInt8} (h : frameR u l = (0, b)) : openR b = (0, u, l) := by
  obtain ⟨hu, h1, h2, rfl⟩ := frame_ok h
  unfold openR
  rw [if_neg (by rw [putN_length, List.length_cons]; omega), cut_put]
  simp only [hu, if_true]
theorem frame_open {u : UInt8} {l b : List UInt8} (h : openR b = (0, u, l)) : frameR u l = (0, b) := by
  unfold openR at h
  split at h
  · cases h
  rename_i hl
  split at h
  · rename_i u' l' hc
    split at h
    · rename_i hu
      injection h with _ h
      injection h with h1 h2
      subst h1 h2
      have hp := put_cut hc
      have hn : b.length = l'.length + 3 := by rw [← hp, putN_length, List.length_cons]
      unfold frameR
      rw [if_pos ⟨hu, by omega, by omega⟩, hp]
    · cases h
  · cases h
  · cases h
theorem open_err (b : List UInt8) : (∃ u l, openR b = (0, u, l)) ∨ (openR b = (10, 0, []) ∨ openR b = (11, 0, [])) := by
  unfold openR
  split
  · exact .inr (.inl rfl)
  rename_i hl
  have hc := cut_sum (b := b) (by omega)
  split
  · split
    · exact .inl ⟨_, _, rfl⟩
    · exact .inr (.inl rfl)
  · exact .inr (.inl rfl)
  · rename_i k _ he
    rw [he] at hc
    simp only at hc
    split at hc
    · omega
    · have hk : k = 10 := by omega
      subst hk
      exact .inr (.inr rfl)
theorem frame_inj {u v : UInt8} {l m b : List UInt8} (h1 : frameR u l = (0, b)) (h2 : frameR v m = (0, b)) : u = v ∧ l = m := by
  have e1 := open_frame h1
  rw [open_frame h2] at e1
  injection e1 with _ e1
  injection e1 with e1 e2
  exact ⟨e1.symm, e2.symm⟩
/-- A frame of which some bits within sixteen are turned is none: its check sum tells. -/
theorem open_spoilt {u : UInt8} {l b : List UInt8} (h : frameR u l = (0, b)) {at_ p : Nat} (hat : at_ ≤ 8 * b.length) : openR (spoilK b at_ p 16) = if anyK b at_ p 16 = true then (11, 0, []) else (0, u, l) := by
  obtain ⟨hu, h1, h2, hb⟩ := frame_ok h
  have hn : b.length = l.length + 3 := by rw [hb, putN_length, List.length_cons]
  by_cases ha : anyK b at_ p 16 = true
  · rw [if_pos ha]
    have hs := spoil_sum (l := b) (at_ := at_) (p := p) (by rw [hb]; exact put_sum _) hat ha
    have hc := cut_sum (b := spoilK b at_ p 16) (by rw [spoilK_length]; omega)
    rw [if_neg hs] at hc
    unfold openR
    rw [if_neg (by rw [spoilK_length]; omega)]
    split
    · rename_i he; rw [he] at hc; cases hc
    · rename_i he; rw [he] at hc; cases hc
    · rename_i he; rw [he] at hc; simp only at hc; rename_i k _; have hk : k = 10 := by omega
      subst hk; rfl
  · rw [if_neg ha, spoilK_same (by simpa using ha)]
    exact open_frame h
end Go.Proofs.Ytiecncnmmecjcaa.RtuM
