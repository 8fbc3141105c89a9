/- Plain facts on packed bits and on numbers of two bytes; no program is named here. -/
namespace Go.Proofs.Ytamdpinfbadflaa.AskM

/-- Eight bits as a number, the first one lowest. -/
def eightOf (f : Nat → Bool) : Nat := (f 0).toNat + 2 * (f 1).toNat + 4 * (f 2).toNat + 8 * (f 3).toNat + 16 * (f 4).toNat + 32 * (f 5).toNat + 64 * (f 6).toNat + 128 * (f 7).toNat
def byteAt (l : List Bool) (j : Nat) : Nat := eightOf fun k => l.getD (8 * j + k) false
/-- Bits packed. -/
def packN (l : List Bool) : List UInt8 := (List.range ((l.length + 7) / 8)).map fun j => UInt8.ofNat (byteAt l j)
def bitOf (c k : Nat) : Bool := decide (c / 2 ^ k % 2 = 1)
/-- A byte's bits. -/
def bitsOf (c : UInt8) : List Bool := (List.range 8).map fun k => bitOf c.toNat k
/-- Bytes unpacked. -/
def unpackN (l : List UInt8) : List Bool := l.flatMap bitsOf

theorem eightOf_lt (f : Nat → Bool) : eightOf f < 256 := by
  unfold eightOf
  cases f 0 <;> cases f 1 <;> cases f 2 <;> cases f 3 <;> cases f 4 <;> cases f 5 <;> cases f 6 <;> cases f 7 <;> decide
theorem byteAt_lt (l : List Bool) (j : Nat) : byteAt l j < 256 := eightOf_lt _
theorem bitOf_eightOf (f : Nat → Bool) {k : Nat} (hk : k < 8) : bitOf (eightOf f) k = f k := by
  have h : k = 0 ∨ k = 1 ∨ k = 2 ∨ k = 3 ∨ k = 4 ∨ k = 5 ∨ k = 6 ∨ k = 7 := by omega
  have := Bool.toNat_lt (f 0); have := Bool.toNat_lt (f 1); have := Bool.toNat_lt (f 2); have := Bool.toNat_lt (f 3)
  have := Bool.toNat_lt (f 4); have := Bool.toNat_lt (f 5); have := Bool.toNat_lt (f 6); have := Bool.toNat_lt (f 7)
  have hb : ∀ b : Bool, decide (b.toNat = 1) = b := by decide
  unfold bitOf eightOf
  rw [← hb (f k)]
  rcases h with rfl | rfl | rfl | rfl | rfl | rfl | rfl | rfl <;> simp only [decide_eq_decide] <;> omega
theorem eightOf_bits_aux : ∀ c : Fin 256, eightOf (fun k => bitOf c.1 k) = c.1 := by decide +kernel
theorem eightOf_bits {c : Nat} (h : c < 256) : eightOf (fun k => bitOf c k) = c := eightOf_bits_aux ⟨c, h⟩
theorem length_bitsOf (c : UInt8) : (bitsOf c).length = 8 := by simp [bitsOf]
theorem length_packN (l : List Bool) : (packN l).length = (l.length + 7) / 8 := by simp [packN]
theorem length_unpackN (l : List UInt8) : (unpackN l).length = 8 * l.length := by
  induction l with
  | nil => rfl
  | cons c l ih =>
    have h : unpackN (c :: l) = bitsOf c ++ unpackN l := rfl
    rw [h, List.length_append, ih, length_bitsOf, List.length_cons]; omega
theorem unpackN_cons (c : UInt8) (l : List UInt8) : unpackN (c :: l) = bitsOf c ++ unpackN l := rfl
theorem unpackN_append (l m : List UInt8) : unpackN (l ++ m) = unpackN l ++ unpackN m := by simp [unpackN]
theorem getD_bitsOf (c : UInt8) {k : Nat} (hk : k < 8) : (bitsOf c).getD k false = bitOf c.toNat k := by
  simp [bitsOf, List.getD, hk]
theorem getD_unpackN (l : List UInt8) (j : Nat) {k : Nat} (hk : k < 8) : (unpackN l).getD (8 * j + k) false = bitOf (l.getD j 0).toNat k := by
  induction l generalizing j with
  | nil => simp [unpackN, bitOf]
  | cons c l ih =>
    rw [unpackN_cons]
    cases j with
    | zero =>
      simp only [List.getD] at *
      rw [List.getElem?_append_left (by rw [length_bitsOf]; omega)]
      simpa [List.getD] using getD_bitsOf c hk
    | succ j =>
      have := ih j
      simp only [List.getD] at *
      rw [List.getElem?_append_right (by rw [length_bitsOf]; omega), length_bitsOf, show 8 * (j + 1) + k - 8 = 8 * j + k by omega]
      simpa using this
theorem getD_packN (l : List Bool) {j : Nat} : ((packN l).getD j 0).toNat = byteAt l j := by
  rcases Nat.lt_or_ge j ((l.length + 7) / 8) with h | h
  · have := byteAt_lt l j
    simp [packN, List.getD, h]; omega
  · have hz : ∀ k, l.getD (8 * j + k) false = false := fun k => by
      simp only [List.getD]; rw [List.getElem?_eq_none (by omega)]; rfl
    simp only [List.getD]
    rw [List.getElem?_eq_none (by rw [length_packN]; exact h)]
    have hf : (fun k => l.getD (8 * j + k) false) = fun _ => false := funext hz
    unfold byteAt
    rw [hf]
    rfl
theorem ext_getD {α : Type} (d : α) {l m : List α} (hl : l.length = m.length) (h : ∀ i, i < l.length → l.getD i d = m.getD i d) : l = m := by
  refine List.ext_getElem hl fun i h1 h2 => ?_
  have := h i h1
  simpa [List.getD, List.getElem?_eq_getElem h1, List.getElem?_eq_getElem h2] using this
/-- Packed and unpacked: the bits, and some that are off. -/
theorem unpack_pack (l : List Bool) : unpackN (packN l) = l ++ List.replicate (8 * ((l.length + 7) / 8) - l.length) false := by
  refine ext_getD false (by rw [length_unpackN, length_packN]; simp; omega) fun i hi => ?_
  rw [length_unpackN, length_packN] at hi
  have e : 8 * (i / 8) + i % 8 = i := by omega
  have h1 := getD_unpackN (packN l) (i / 8) (k := i % 8) (by omega)
  rw [e, getD_packN] at h1
  rw [h1, byteAt, bitOf_eightOf _ (by omega), e]
  simp only [List.getD]
  rcases Nat.lt_or_ge i l.length with h | h
  · rw [List.getElem?_append_left h]
  · rw [List.getElem?_append_right h, List.getElem?_eq_none h, List.getElem?_replicate]
    split <;> rfl
theorem take_unpack_pack (l : List Bool) : (unpackN (packN l)).take l.length = l := by rw [unpack_pack]; simp
theorem pack_unpack (b : List UInt8) : packN (unpackN b) = b := by
  refine ext_getD 0 (by rw [length_packN, length_unpackN]; omega) fun i hi => ?_
  apply UInt8.toNat_inj.1
  rw [getD_packN, byteAt]
  have hh : eightOf (fun k => (unpackN b).getD (8 * i + k) false) = eightOf (fun k => bitOf (b.getD i 0).toNat k) := by
    unfold eightOf
    simp only [getD_unpackN b i (k := 0) (by omega), getD_unpackN b i (k := 1) (by omega), getD_unpackN b i (k := 2) (by omega), getD_unpackN b i (k := 3) (by omega), getD_unpackN b i (k := 4) (by omega), getD_unpackN b i (k := 5) (by omega), getD_unpackN b i (k := 6) (by omega), getD_unpackN b i (k := 7) (by omega)]
  rw [hh, eightOf_bits (b.getD i 0).toNat_lt]

/-! ### Numbers of two bytes -/
def hi (n : UInt16) : UInt8 := UInt8.ofNat (n.toNat / 256)
def lo (n : UInt16) : UInt8 := UInt8.ofNat (n.toNat % 256)
def num (x y : UInt8) : UInt16 := UInt16.ofNat (256 * x.toNat + y.toNat)
theorem toNat_hi (n : UInt16) : (hi n).toNat = n.toNat / 256 := by have := n.toNat_lt; unfold hi; simp; omega
theorem toNat_lo (n : UInt16) : (lo n).toNat = n.toNat % 256 := by unfold lo; simp
theorem toNat_num (x y : UInt8) : (num x y).toNat = 256 * x.toNat + y.toNat := by have := x.toNat_lt; have := y.toNat_lt; unfold num; simp; omega
theorem num_hi_lo (n : UInt16) : num (hi n) (lo n) = n := by
  apply UInt16.toNat_inj.1; rw [toNat_num, toNat_hi, toNat_lo]; omega
theorem hi_num (x y : UInt8) : hi (num x y) = x := by
  apply UInt8.toNat_inj.1; have := x.toNat_lt; have := y.toNat_lt; rw [toNat_hi, toNat_num]; omega
theorem lo_num (x y : UInt8) : lo (num x y) = y := by
  apply UInt8.toNat_inj.1; have := x.toNat_lt; have := y.toNat_lt; rw [toNat_lo, toNat_num]; omega
/-- Numbers put, the upper byte first. -/
def putN (l : List UInt16) : List UInt8 := l.flatMap fun n => [hi n, lo n]
theorem putN_cons (n : UInt16) (l : List UInt16) : putN (n :: l) = hi n :: lo n :: putN l := rfl
theorem putN_append (l m : List UInt16) : putN (l ++ m) = putN l ++ putN m := by simp [putN]
theorem length_putN (l : List UInt16) : (putN l).length = 2 * l.length := by
  induction l with
  | nil => rfl
  | cons n l ih => rw [putN_cons]; simp [ih]; omega
/-- The number at a place; 0 behind the end. -/
def at16 (b : List UInt8) (i : Nat) : UInt16 := if i + 1 < b.length then num (b.getD i 0) (b.getD (i + 1) 0) else 0
def numsN : List UInt8 → List UInt16
  | x :: y :: r => num x y :: numsN r
  | _ => []
theorem nums_put (l : List UInt16) : numsN (putN l) = l := by
  induction l with
  | nil => rfl
  | cons n l ih => rw [putN_cons, numsN, ih, num_hi_lo]
theorem length_numsN (b : List UInt8) : (numsN b).length = b.length / 2 := by
  induction b using numsN.induct with
  | case1 x y r ih => rw [numsN]; simp [ih]; omega
  | case2 b h =>
    rcases b with _ | ⟨x, _ | ⟨y, r⟩⟩
    · rfl
    · simp [numsN]
    · exact absurd rfl (h x y r)
theorem getD_numsN (b : List UInt8) (k : Nat) (hk : 2 * k + 1 < b.length) : (numsN b).getD k 0 = num (b.getD (2 * k) 0) (b.getD (2 * k + 1) 0) := by
  induction b using numsN.induct generalizing k with
  | case1 x y r ih =>
    rw [numsN]
    cases k with
    | zero => rfl
    | succ k =>
      have := ih k (by simp at hk; omega)
      simpa [List.getD, show 2 * (k + 1) = 2 * k + 1 + 1 by omega] using this
  | case2 b h =>
    rcases b with _ | ⟨x, _ | ⟨y, r⟩⟩
    · simp at hk
    · simp at hk
    · exact absurd rfl (h x y r)
theorem at16_drop (b : List UInt8) (p i : Nat) : at16 (b.drop p) i = at16 b (p + i) := by
  unfold at16
  have e : ∀ j, (b.drop p).getD j 0 = b.getD (p + j) 0 := fun j => by simp [List.getD]
  rw [e, e, List.length_drop]
  by_cases h : p + i + 1 < b.length
  · rw [if_pos (by omega), if_pos h]; rfl
  · rw [if_neg (by omega), if_neg h]
end Go.Proofs.Ytamdpinfbadflaa.AskM
