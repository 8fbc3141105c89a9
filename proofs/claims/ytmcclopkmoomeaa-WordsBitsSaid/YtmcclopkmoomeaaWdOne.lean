/- Bits of which one is set; plain facts. -/
import Derived.Test.YtmcclopkmoomeaaWdPackM
namespace Go.Proofs.Ytmcclopkmoomeaa.WdW
open AskM WdM

/-- n bits of which the k-th is set. -/
def oneN (n k : Nat) : List Bool := (List.range n).map fun i => decide (i = k)
theorem length_oneN (n k : Nat) : (oneN n k).length = n := by simp [oneN]
theorem one_set {n k : Nat} : ((List.replicate n (Value.bool false)).toArray.setIfInBounds k (.bool true)) = ((oneN n k).map Value.bool).toArray := by
  apply Array.ext
  · simp [oneN]
  · intro i h1 h2
    rw [Array.getElem_setIfInBounds (by simpa using h1)]
    by_cases e : k = i
    · subst e; simp [oneN]
    · simp [oneN, e, Ne.symm e]
theorem getD_one (n k i : Nat) (h : k < n) : (oneN n k).getD i false = decide (i = k) := by
  simp only [oneN, List.getD, List.getElem?_map]
  by_cases hi : i < n
  · simp [hi]
  · rw [List.getElem?_eq_none (by simpa using hi)]
    simp; omega
theorem bit_eight_aux : ∀ r : Fin 8, eightOf (fun i => decide (i = r.1)) = 2 ^ r.1 := by decide +kernel
theorem byte_one {n k : Nat} (h : k < n) (j : Nat) : byteAt (oneN n k) j = if j = k / 8 then 2 ^ (k % 8) else 0 := by
  unfold byteAt
  by_cases e : j = k / 8
  · rw [if_pos e, ← bit_eight_aux ⟨k % 8, by omega⟩]
    refine eightOf_congr fun i hi => ?_
    rw [getD_one n k _ h, decide_eq_decide]
    simp only
    omega
  · rw [if_neg e, eightOf_congr (g := fun _ => false) (fun i hi => by rw [getD_one n k _ h]; simp; omega)]
    rfl
theorem one_byte {n k j : Nat} (h : k < n) (hj : j < (n + 7) / 8) : (packN (oneN n k))[j]? = some (UInt8.ofNat (if j = k / 8 then 2 ^ (k % 8) else 0)) := by
  rw [← byte_one h j]
  unfold packN
  rw [List.getElem?_map, List.getElem?_range (by rw [length_oneN]; omega)]
  rfl
/-- One more bit set, behind the last one. -/
def moreN (n k t : Nat) : List Bool := oneN n k ++ List.replicate (t - n) false ++ [true]
theorem length_moreN {n k t : Nat} (h : n ≤ t) : (moreN n k t).length = t + 1 := by simp [moreN, length_oneN]; omega
theorem more_last {n k t : Nat} (h : n ≤ t) : (moreN n k t)[t]? = some true := by
  unfold moreN
  rw [List.getElem?_append_right (by simp [length_oneN]; omega)]
  have : t - (oneN n k ++ List.replicate (t - n) false).length = 0 := by simp [length_oneN]; omega
  rw [this]
  rfl
theorem more_take {n k t i : Nat} (h : n ≤ t) : ((moreN n k t).take t).getD i false = (oneN n k).getD i false := by
  have hl : (oneN n k ++ List.replicate (t - n) false).length = t := by simp [length_oneN]; omega
  have e : (moreN n k t).take t = oneN n k ++ List.replicate (t - n) false := by
    unfold moreN
    rw [List.take_append_of_le_length (by omega), List.take_of_length_le (by omega)]
  rw [e]
  simp only [List.getD]
  by_cases hi : i < n
  · rw [List.getElem?_append_left (by rw [length_oneN]; exact hi)]
  · rw [List.getElem?_append_right (by rw [length_oneN]; omega), List.getElem?_eq_none (l := oneN n k) (by rw [length_oneN]; omega), List.getElem?_replicate]
    split <;> rfl
theorem more_pack {n k t : Nat} (h : n ≤ t) (ht : t < 8 * ((n + 7) / 8)) : packN (moreN n k t) = (packN (oneN n k)).set (t / 8) (UInt8.ofNat (byteAt (oneN n k) (t / 8) ||| 2 ^ (t % 8))) := by
  have hall : (moreN n k t).take (t + 1) = moreN n k t := List.take_of_length_le (by rw [length_moreN h]; omega)
  refine List.ext_getElem? fun j => ?_
  have hlen : (packN (moreN n k t)).length = (packN (oneN n k)).length := by rw [length_packN, length_packN, length_moreN h, length_oneN]; omega
  by_cases hj : j < (packN (oneN n k)).length
  · have hj2 := hj
    rw [length_packN, length_oneN] at hj2
    have e1 : (packN (moreN n k t))[j]? = some (UInt8.ofNat (byteAt (moreN n k t) j)) := by
      unfold packN
      rw [List.getElem?_map, List.getElem?_range (by rw [length_moreN h]; omega)]; rfl
    have e2 : (packN (oneN n k))[j]? = some (UInt8.ofNat (byteAt (oneN n k) j)) := by
      unfold packN
      rw [List.getElem?_map, List.getElem?_range (by rw [length_oneN]; omega)]; rfl
    rw [e1, List.getElem?_set]
    have eb : byteAt ((moreN n k t).take t) j = byteAt (oneN n k) j := byteAt_same fun i _ => more_take h
    by_cases e : t / 8 = j
    · subst e
      have hb := byteAt_on (more_last (k := k) h)
      rw [hall, eb] at hb
      rw [hb, if_pos rfl, if_pos hj]
    · rw [if_neg e, e2]
      have hb := byteAt_else (l := moreN n k t) (k := t) (j := j) (by omega)
      rw [hall, eb] at hb
      rw [hb]
  · rw [List.getElem?_eq_none (by omega), List.getElem?_eq_none (by rw [List.length_set]; omega)]
theorem more_no {n k t : Nat} (h : n ≤ t) (ht : t < 8 * ((n + 7) / 8)) : ¬ FitB (packN (moreN n k t)) (n : Int) := by
  intro hf
  have h3 := hf.2.2
  have hl : (packN (moreN n k t)).length = t / 8 + 1 := by rw [length_packN, length_moreN h]; omega
  simp only [Int.toNat_natCast, hl] at h3
  have h4 := h3 (by omega)
  rw [show t / 8 + 1 - 1 = t / 8 by omega, getD_packN] at h4
  have hall : (moreN n k t).take (t + 1) = moreN n k t := List.take_of_length_le (by rw [length_moreN h]; omega)
  have hb := byteAt_on (more_last (k := k) h)
  rw [hall] at hb
  have hge : 2 ^ (t % 8) ≤ byteAt (moreN n k t) (t / 8) := by rw [hb]; exact Nat.right_le_or
  have hp : 2 ^ (n % 8) ≤ 2 ^ (t % 8) := Nat.pow_le_pow_right (by omega) (by omega)
  have hpos : 0 < 2 ^ (n % 8) := Nat.pow_pos (by omega)
  have := Nat.div_pos (Nat.le_trans hp hge) hpos
  omega
theorem more_yes {n k t : Nat} (h : n ≤ t) : (bitsN (packN (moreN n k t)) ((t : Int) + 1)).length = t + 1 := by
  have := bits_pack (moreN n k t)
  rw [length_moreN h] at this
  rw [show (t : Int) + 1 = ((t + 1 : Nat) : Int) by omega, this, length_moreN h]
theorem one_more_no (n k : Nat) : bitsN (packN (oneN n k) ++ [0]) (n : Int) = [] := bitsN_no fun h => by
  have := h.2.1
  simp only [Int.toNat_natCast, List.length_append, length_packN, length_oneN] at this
  simp at this
theorem neg_no (b : List UInt8) : bitsN b (-1) = [] := bitsN_no fun h => by have := h.1; omega
end Go.Proofs.Ytmcclopkmoomeaa.WdW
