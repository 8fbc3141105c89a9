/- Plain facts: bytes that are so many bits, registers, and numbers of two registers; no program is named here. -/
import Derived.Test.YtmcclopkmoomeaaAskBits
namespace Go.Proofs.Ytmcclopkmoomeaa.WdM
open AskM

/-- Are the bytes just n bits? -/
def FitB (b : List UInt8) (n : Int) : Prop := 0 ≤ n ∧ b.length = (n.toNat + 7) / 8 ∧ (0 < n.toNat % 8 → (b.getD (b.length - 1) 0).toNat / 2 ^ (n.toNat % 8) = 0)
instance (b : List UInt8) (n : Int) : Decidable (FitB b n) := by unfold FitB; infer_instance
/-- The first n bits of bytes that are just these. -/
def bitsN (b : List UInt8) (n : Int) : List Bool := if FitB b n then (unpackN b).take n.toNat else []

theorem eightOf_congr {f g : Nat → Bool} (h : ∀ k, k < 8 → f k = g k) : eightOf f = eightOf g := by
  unfold eightOf
  rw [h 0 (by omega), h 1 (by omega), h 2 (by omega), h 3 (by omega), h 4 (by omega), h 5 (by omega), h 6 (by omega), h 7 (by omega)]
theorem mask_aux : ∀ c : Fin 256, ∀ r : Fin 9, eightOf (fun k => decide (k < r.1) && bitOf c.1 k) = c.1 % 2 ^ r.1 := by decide +kernel
theorem mask {c r : Nat} (hc : c < 256) (hr : r ≤ 8) : eightOf (fun k => decide (k < r) && bitOf c k) = c % 2 ^ r := mask_aux ⟨c, hc⟩ ⟨r, by omega⟩
theorem getD_take (l : List Bool) (n i : Nat) : (l.take n).getD i false = (decide (i < n) && l.getD i false) := by
  simp only [List.getD, List.getElem?_take]
  by_cases h : i < n <;> simp [h]
/-- A byte of the first n bits. -/
theorem byte_take (b : List UInt8) (n j : Nat) : byteAt ((unpackN b).take n) j = (b.getD j 0).toNat % 2 ^ (min 8 (n - 8 * j)) := by
  rw [← mask (b.getD j 0).toNat_lt (Nat.min_le_left _ _)]
  unfold byteAt
  refine eightOf_congr fun k hk => ?_
  rw [getD_take, getD_unpackN b j hk]
  congr 1
  rw [decide_eq_decide]
  omega
theorem mod_self {c r : Nat} : c % 2 ^ r = c ↔ c / 2 ^ r = 0 := by
  have h := Nat.div_add_mod c (2 ^ r)
  have hp : 0 < 2 ^ r := Nat.pow_pos (by omega)
  constructor
  · intro e
    exact Nat.div_eq_of_lt (by rw [← e]; exact Nat.mod_lt _ hp)
  · intro e
    rw [e] at h
    omega
theorem mod_eight {c : Nat} (h : c < 256) : c % 2 ^ 8 = c := Nat.mod_eq_of_lt h
theorem length_take (b : List UInt8) {n : Nat} (h : n ≤ 8 * b.length) : ((unpackN b).take n).length = n := by rw [List.length_take, length_unpackN]; omega
theorem pack_bits {b : List UInt8} {n : Int} (h : FitB b n) : packN ((unpackN b).take n.toNat) = b := by
  obtain ⟨h0, h1, h2⟩ := h
  refine ext_getD 0 (by rw [length_packN, length_take _ (by omega)]; omega) fun j hj => ?_
  rw [length_packN, length_take _ (by omega)] at hj
  apply UInt8.toNat_inj.1
  rw [getD_packN, byte_take]
  by_cases hf : 8 * j + 8 ≤ n.toNat
  · rw [show min 8 (n.toNat - 8 * j) = 8 by omega]
    exact mod_eight (b.getD j 0).toNat_lt
  · rw [show min 8 (n.toNat - 8 * j) = n.toNat % 8 by omega]
    have := h2 (by omega)
    rw [show b.length - 1 = j by omega] at this
    exact mod_self.2 this
theorem fit_of_pack {b : List UInt8} {n : Int} (h0 : 0 ≤ n) (h8 : n.toNat ≤ 8 * b.length) (h : packN ((unpackN b).take n.toNat) = b) : FitB b n := by
  have hl := congrArg List.length h
  rw [length_packN, length_take _ h8] at hl
  refine ⟨h0, hl.symm, fun hr => ?_⟩
  have hb : (b.getD (b.length - 1) 0).toNat = byteAt ((unpackN b).take n.toNat) (b.length - 1) := by
    rw [← getD_packN, h]
  rw [byte_take, show min 8 (n.toNat - 8 * (b.length - 1)) = n.toNat % 8 by omega] at hb
  exact mod_self.1 hb.symm
theorem fit_packN (l : List Bool) : FitB (packN l) (l.length : Int) := by
  refine fit_of_pack (by omega) (by rw [length_packN]; simp; omega) ?_
  simp only [Int.toNat_natCast]
  rw [take_unpack_pack]
/-- Bits packed are told again. -/
theorem bits_pack (l : List Bool) : bitsN (packN l) (l.length : Int) = l := by
  unfold bitsN
  rw [if_pos (fit_packN l)]
  simp only [Int.toNat_natCast]
  exact take_unpack_pack l
theorem length_bitsN {b : List UInt8} {n : Int} (h : FitB b n) : (bitsN b n).length = n.toNat := by
  unfold bitsN
  rw [if_pos h]
  exact length_take _ (by have := h.2.1; omega)
theorem bitsN_no {b : List UInt8} {n : Int} (h : ¬ FitB b n) : bitsN b n = [] := if_neg h
theorem bitsN_yes {b : List UInt8} {n : Int} (h : FitB b n) : bitsN b n = (unpackN b).take n.toNat := if_pos h
theorem pack_bitsN {b : List UInt8} {n : Int} (h : FitB b n) : packN (bitsN b n) = b := by rw [bitsN_yes h, pack_bits h]
theorem put_nums {b : List UInt8} (h : b.length % 2 = 0) : putN (numsN b) = b := by
  induction b using numsN.induct with
  | case1 x y r ih => rw [numsN, putN_cons, ih (by simp at h; omega), hi_num, lo_num]
  | case2 b hh =>
    rcases b with _ | ⟨x, _ | ⟨y, r⟩⟩
    · rfl
    · simp at h
    · exact absurd rfl (hh x y r)
theorem ofNat_toNat8 {n : Nat} (h : n < 256) : (UInt8.ofNat n).toNat = n := by simp; omega
/-- The registers that bytes are. -/
def regsN (b : List UInt8) : List UInt16 := if b.length % 2 = 0 then numsN b else []
/-- The value of a signed register. -/
def signedN (x : Nat) : Int := if 32768 ≤ x then (x : Int) - 65536 else x
/-- Is there a signed register of that value? -/
def mayN (x : Int) : Bool := decide (-32768 ≤ x ∧ x ≤ 32767)
def wordN (x : Int) : Nat := if mayN x = true then (x % 65536).toNat else 0
theorem wordN_lt (x : Int) : wordN x < 65536 := by unfold wordN; split <;> omega
theorem may_signed {x : Nat} (h : x < 65536) : mayN (signedN x) = true := by
  unfold mayN signedN
  split <;> simp <;> omega
theorem word_signed {x : Nat} (h : x < 65536) : wordN (signedN x) = x := by
  unfold wordN
  rw [if_pos (may_signed h)]
  unfold signedN
  split <;> omega
theorem signed_word {x : Int} (h : mayN x = true) : signedN (wordN x) = x := by
  have hm := h
  unfold mayN at hm
  have := of_decide_eq_true hm
  unfold wordN signedN
  rw [if_pos h]
  split <;> omega
end Go.Proofs.Ytmcclopkmoomeaa.WdM
