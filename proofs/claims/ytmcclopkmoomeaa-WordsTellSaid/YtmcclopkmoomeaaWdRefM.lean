/- The document's own answer on bits, plainly: what the bytes hold behind k bits. -/
import Derived.Test.YtmcclopkmoomeaaWdPackM
open Go.RowKit
namespace Go.Proofs.Ytmcclopkmoomeaa.WdW
open AskM WdM

/-- The bytes of k bits, and one more if none has room. -/
def midN (l : List Bool) (k : Nat) : List UInt8 := if k % 8 = 0 then packN (l.take k) ++ [0] else packN (l.take k)
theorem mid_none {l : List Bool} {k : Nat} (h : k % 8 = 0) : midN l k = packN (l.take k) ++ [0] := if_pos h
theorem mid_some {l : List Bool} {k : Nat} (h : ¬ k % 8 = 0) : midN l k = packN (l.take k) := if_neg h
theorem length_packT {l : List Bool} {k : Nat} (h : k ≤ l.length) : (packN (l.take k)).length = (k + 7) / 8 := by rw [length_packN, List.length_take]; omega
theorem length_mid {l : List Bool} {k : Nat} (h : k ≤ l.length) : (midN l k).length = k / 8 + 1 := by
  unfold midN
  split
  · rw [List.length_append, length_packT h]; simp; omega
  · rw [length_packT h]; omega
theorem packT_at {l : List Bool} {k j : Nat} (h : k ≤ l.length) (hj : j < (k + 7) / 8) : (packN (l.take k))[j]? = some (UInt8.ofNat (byteAt (l.take k) j)) := by
  unfold packN
  rw [List.getElem?_map, List.getElem?_range (by rw [List.length_take]; omega)]; rfl
theorem byte_none {l : List Bool} {k j : Nat} (h : k ≤ 8 * j) : byteAt (l.take k) j = 0 := by
  unfold byteAt
  rw [eightOf_congr (g := fun _ => false) (fun i hi => by rw [getD_take, if_neg (by omega)])]
  rfl
theorem mid_at {l : List Bool} {k j : Nat} (h : k ≤ l.length) (hj : j < k / 8 + 1) : (midN l k)[j]? = some (UInt8.ofNat (byteAt (l.take k) j)) := by
  unfold midN
  split
  · by_cases e : j < (k + 7) / 8
    · rw [List.getElem?_append_left (by rw [length_packT h]; exact e), packT_at h e]
    · rw [List.getElem?_append_right (by rw [length_packT h]; omega), length_packT h, show j - (k + 7) / 8 = 0 by omega, byte_none (by omega)]
      rfl
  · exact packT_at h (by omega)
theorem mid_off {l : List Bool} {k : Nat} (h : l[k]? = some false) : midN l k = packN (l.take (k + 1)) := by
  have hk := (List.getElem?_eq_some_iff.1 h).1
  refine List.ext_getElem? fun j => ?_
  by_cases hj : j < k / 8 + 1
  · rw [mid_at (by omega) hj, packT_at (by omega) (by omega), byteAt_off h]
  · rw [List.getElem?_eq_none (by rw [length_mid (by omega)]; omega), List.getElem?_eq_none (by rw [length_packT (by omega)]; omega)]
theorem mid_on {l : List Bool} {k : Nat} (h : l[k]? = some true) : (midN l k).set (k / 8) (UInt8.ofNat (byteAt (l.take k) (k / 8) + 2 ^ (k % 8))) = packN (l.take (k + 1)) := by
  have hk := (List.getElem?_eq_some_iff.1 h).1
  refine List.ext_getElem? fun j => ?_
  by_cases hj : j < k / 8 + 1
  · rw [packT_at (by omega) (by omega), List.getElem?_set]
    by_cases e : k / 8 = j
    · subst e
      rw [if_pos rfl, if_pos (by rw [length_mid (by omega)]; omega), byteAt_on h]
      have h0 : byteAt (l.take k) (k / 8) / 2 ^ (k % 8) % 2 = 0 := by
        have := bitOf_eightOf (fun i => (l.take k).getD (8 * (k / 8) + i) false) (k := k % 8) (by omega)
        rw [getD_take, if_neg (by omega)] at this
        have h2 := of_decide_eq_false this
        unfold byteAt
        omega
      rw [or_new (byteAt_lt _ _) (by omega) h0]
    · rw [if_neg e, mid_at (by omega) hj, byteAt_else (by omega)]
  · rw [List.getElem?_eq_none (by rw [List.length_set, length_mid (by omega)]; omega), List.getElem?_eq_none (by rw [length_packT (by omega)]; omega)]
theorem on_lt (l : List Bool) {k : Nat} : byteAt (l.take k) (k / 8) + 2 ^ (k % 8) < 256 := by
  have h0 : byteAt (l.take k) (k / 8) / 2 ^ (k % 8) % 2 = 0 := by
    have := bitOf_eightOf (fun i => (l.take k).getD (8 * (k / 8) + i) false) (k := k % 8) (by omega)
    rw [getD_take, if_neg (by omega)] at this
    have h2 := of_decide_eq_false this
    unfold byteAt
    omega
  rw [← or_new (byteAt_lt _ _) (by omega) h0]
  exact Nat.or_lt_two_pow (n := 8) (byteAt_lt _ _) (Nat.pow_lt_pow_right (by omega) (by omega))
theorem bits_snoc {b : List UInt8} {k : Nat} (h : k < 8 * b.length) : (unpackN b).take (k + 1) = (unpackN b).take k ++ [(unpackN b).getD k false] := by
  have hx : (unpackN b)[k]? = some ((unpackN b).getD k false) := by
    rw [List.getD_eq_getElem?_getD, List.getElem?_eq_getElem (by rw [length_unpackN]; exact h)]; rfl
  rw [List.take_add_one, hx]; rfl
theorem nums_snoc {b : List UInt8} {k : Nat} {x y : UInt8} (hx : b[2 * k]? = some x) (hy : b[2 * k + 1]? = some y) : (numsN b).take (k + 1) = (numsN b).take k ++ [num x y] := by
  have hl := (List.getElem?_eq_some_iff.1 hy).1
  have h := getD_numsN b k hl
  have hz : (numsN b)[k]? = some (num x y) := by
    rw [List.getD_eq_getElem?_getD, List.getElem?_eq_getElem (by rw [length_numsN]; omega)] at h
    rw [List.getElem?_eq_getElem (by rw [length_numsN]; omega)]
    simp only [Option.getD_some] at h
    rw [h]
    simp [List.getD, hx, hy]
  rw [List.take_add_one, hz]; rfl
end Go.Proofs.Ytmcclopkmoomeaa.WdW
