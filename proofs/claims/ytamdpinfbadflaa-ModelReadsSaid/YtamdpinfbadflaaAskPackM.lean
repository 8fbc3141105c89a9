/- Bits packed one by one: what the bytes hold behind k of them. -/
import Derived.Test.YtamdpinfbadflaaAskA
open Go.RowKit
namespace Go.Proofs.Ytamdpinfbadflaa.AskW
open AskM Mem

theorem or_new_aux : ∀ c : Fin 256, ∀ r : Fin 8, c.1 / 2 ^ r.1 % 2 = 0 → c.1 ||| 2 ^ r.1 = c.1 + 2 ^ r.1 := by decide +kernel
theorem or_new {c r : Nat} (hc : c < 256) (hr : r < 8) (h : c / 2 ^ r % 2 = 0) : c ||| 2 ^ r = c + 2 ^ r := or_new_aux ⟨c, hc⟩ ⟨r, hr⟩ h
theorem eightOf_set (f g : Nat → Bool) {r : Nat} (hr : r < 8) (h0 : f r = false) (h1 : g r = true) (h : ∀ i, i ≠ r → g i = f i) : eightOf g = eightOf f ||| 2 ^ r := by
  rw [or_new (eightOf_lt f) hr (by
    have := bitOf_eightOf f hr
    rw [h0] at this
    unfold bitOf at this
    have h2 := of_decide_eq_false this
    omega)]
  unfold eightOf
  have hc : r = 0 ∨ r = 1 ∨ r = 2 ∨ r = 3 ∨ r = 4 ∨ r = 5 ∨ r = 6 ∨ r = 7 := by omega
  rcases hc with rfl | rfl | rfl | rfl | rfl | rfl | rfl | rfl
  · rw [h0, h1, h 1 (by omega), h 2 (by omega), h 3 (by omega), h 4 (by omega), h 5 (by omega), h 6 (by omega), h 7 (by omega)]; simp; omega
  · rw [h0, h1, h 0 (by omega), h 2 (by omega), h 3 (by omega), h 4 (by omega), h 5 (by omega), h 6 (by omega), h 7 (by omega)]; simp; omega
  · rw [h0, h1, h 0 (by omega), h 1 (by omega), h 3 (by omega), h 4 (by omega), h 5 (by omega), h 6 (by omega), h 7 (by omega)]; simp; omega
  · rw [h0, h1, h 0 (by omega), h 1 (by omega), h 2 (by omega), h 4 (by omega), h 5 (by omega), h 6 (by omega), h 7 (by omega)]; simp; omega
  · rw [h0, h1, h 0 (by omega), h 1 (by omega), h 2 (by omega), h 3 (by omega), h 5 (by omega), h 6 (by omega), h 7 (by omega)]; simp; omega
  · rw [h0, h1, h 0 (by omega), h 1 (by omega), h 2 (by omega), h 3 (by omega), h 4 (by omega), h 6 (by omega), h 7 (by omega)]; simp; omega
  · rw [h0, h1, h 0 (by omega), h 1 (by omega), h 2 (by omega), h 3 (by omega), h 4 (by omega), h 5 (by omega), h 7 (by omega)]; simp; omega
  · rw [h0, h1, h 0 (by omega), h 1 (by omega), h 2 (by omega), h 3 (by omega), h 4 (by omega), h 5 (by omega), h 6 (by omega)]; simp
theorem getD_take {l : List Bool} {k i : Nat} : (l.take k).getD i false = if i < k then l.getD i false else false := by
  simp only [List.getD, List.getElem?_take]
  split <;> rfl
theorem getD_of {l : List Bool} {k : Nat} {x : Bool} (h : l[k]? = some x) : l.getD k false = x := by simp [List.getD, h]
theorem byteAt_on {l : List Bool} {k : Nat} (h : l[k]? = some true) : byteAt (l.take (k + 1)) (k / 8) = byteAt (l.take k) (k / 8) ||| 2 ^ (k % 8) := by
  refine eightOf_set _ _ (r := k % 8) (by omega) ?_ ?_ ?_
  · show (l.take k).getD (8 * (k / 8) + k % 8) false = false
    rw [getD_take, if_neg (by omega)]
  · show (l.take (k + 1)).getD (8 * (k / 8) + k % 8) false = true
    rw [getD_take, if_pos (by omega), show 8 * (k / 8) + k % 8 = k by omega, getD_of h]
  · intro i hi
    show (l.take (k + 1)).getD (8 * (k / 8) + i) false = (l.take k).getD (8 * (k / 8) + i) false
    rw [getD_take, getD_take]
    by_cases h1 : 8 * (k / 8) + i < k
    · rw [if_pos h1, if_pos (by omega)]
    · rw [if_neg h1, if_neg (by omega)]
theorem byteAt_same {l m : List Bool} {j : Nat} (h : ∀ i, i < 8 → l.getD (8 * j + i) false = m.getD (8 * j + i) false) : byteAt l j = byteAt m j := by
  unfold byteAt eightOf
  simp only [h 0 (by omega), h 1 (by omega), h 2 (by omega), h 3 (by omega), h 4 (by omega), h 5 (by omega), h 6 (by omega), h 7 (by omega)]
theorem byteAt_off {l : List Bool} {k j : Nat} (h : l[k]? = some false) : byteAt (l.take (k + 1)) j = byteAt (l.take k) j := by
  refine byteAt_same fun i _ => ?_
  rw [getD_take, getD_take]
  by_cases h1 : 8 * j + i < k
  · rw [if_pos h1, if_pos (by omega)]
  · rw [if_neg h1]
    by_cases h2 : 8 * j + i = k
    · rw [h2, if_pos (by omega), getD_of h]
    · rw [if_neg (by omega)]
theorem byteAt_else {l : List Bool} {k j : Nat} (h : j ≠ k / 8) : byteAt (l.take (k + 1)) j = byteAt (l.take k) j := by
  refine byteAt_same fun i hi => ?_
  rw [getD_take, getD_take]
  by_cases h1 : 8 * j + i < k
  · rw [if_pos h1, if_pos (by omega)]
  · rw [if_neg h1, if_neg (by omega)]

/-- m bytes that hold the first k bits. -/
def packTo (l : List Bool) (m k : Nat) : Array Value := ((List.range m).map fun j => Value.int .u8 (byteAt (l.take k) j : Int)).toArray
theorem packTo_size (l : List Bool) (m k : Nat) : (packTo l m k).size = m := by simp [packTo]
theorem packTo_at (l : List Bool) (m k : Nat) {j : Nat} (h : j < m) : (packTo l m k)[j]? = some (.int .u8 (byteAt (l.take k) j : Int)) := by simp [packTo, h]
theorem packTo_zero (l : List Bool) (m : Nat) : Array.replicate m (Value.int .u8 0) = packTo l m 0 := by
  unfold packTo
  rw [← List.toArray_replicate]
  congr 1
  refine List.ext_getElem (by simp) fun i h1 h2 => ?_
  simp [byteAt, eightOf]
theorem packTo_on {l : List Bool} {m k : Nat} (h : l[k]? = some true) : (packTo l m k).setIfInBounds (k / 8) (.int .u8 ((byteAt (l.take k) (k / 8) ||| 2 ^ (k % 8) : Nat) : Int)) = packTo l m (k + 1) := by
  apply Array.ext
  · simp [packTo_size]
  · intro i h1 h2
    rw [Array.getElem_setIfInBounds (by simpa using h1)]
    by_cases e : k / 8 = i
    · subst e
      rw [if_pos rfl, ← byteAt_on h]
      simp [packTo]
    · rw [if_neg e]
      simp [packTo, byteAt_else (l := l) (k := k) (j := i) (by omega)]
theorem packTo_off {l : List Bool} {m k : Nat} (h : l[k]? = some false) : packTo l m k = packTo l m (k + 1) := by
  unfold packTo
  simp only [byteAt_off h]
theorem packTo_done (l : List Bool) : packTo l ((l.length + 7) / 8) l.length = ((packN l).map b8).toArray := by
  unfold packTo packN
  rw [List.take_length, List.map_map]
  congr 1
  refine List.map_congr_left fun j _ => ?_
  have := byteAt_lt l j
  show Value.int .u8 _ = Value.int .u8 _
  rw [ofNat_toNat8 this]
theorem or_bit {c r : Nat} (hc : c < 256) (hr : r < 8) : bits .or .u8 (c : Int) ((2 ^ r : Nat) : Int) = ((c ||| 2 ^ r : Nat) : Int) :=
  u8_or_nat c (2 ^ r) hc (by have := Nat.pow_le_pow_right (n := 2) (by omega) (show r ≤ 7 by omega); omega)
theorem or_bit' {c : Nat} (k : Nat) (hc : c < 256) : bits .or .u8 (c : Int) ((2 : Int) ^ (k % 8) % 256) = ((c ||| 2 ^ (k % 8) : Nat) : Int) := by
  rw [← or_bit hc (show k % 8 < 8 by omega)]
  congr 1
  have h : (2 : Nat) ^ (k % 8) < 256 := by have := Nat.pow_le_pow_right (n := 2) (by omega) (show k % 8 ≤ 7 by omega); omega
  have h2 : ((2 : Int) ^ (k % 8)) = ((2 ^ (k % 8) : Nat) : Int) := by simp
  rw [h2]
  generalize (2 : Nat) ^ (k % 8) = q at *
  omega
end Go.Proofs.Ytamdpinfbadflaa.AskW
