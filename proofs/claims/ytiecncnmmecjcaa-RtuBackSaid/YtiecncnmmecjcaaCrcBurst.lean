/- Bits turned within sixteen beside one another: the check sum tells it. Plain facts, no program is named here. -/
import Derived.Test.YtiecncnmmecjcaaCrcMath
namespace Go.Proofs.Ytiecncnmmecjcaa.CrcM

/-- So many bits shifted out. -/
def crcs : Nat → Nat → Nat
  | 0, s => s
  | k + 1, s => crcs k (crc1 s)
theorem crcs_add (a b s : Nat) : crcs (a + b) s = crcs b (crcs a s) := by
  induction a generalizing s with
  | zero => rw [Nat.zero_add]; rfl
  | succ a ih => rw [show a + 1 + b = (a + b) + 1 by omega]; exact ih _
theorem crcs_xor (k a b : Nat) : crcs k (a ^^^ b) = crcs k a ^^^ crcs k b := by
  induction k generalizing a b with
  | zero => rfl
  | succ k ih => show crcs k (crc1 (a ^^^ b)) = _; rw [crc1_xor, ih]; rfl
theorem crcs_shl (k q : Nat) : crcs k (q <<< k) = q := by
  induction k generalizing q with
  | zero => rfl
  | succ k ih =>
    show crcs k (crc1 (q <<< (k + 1))) = q
    rw [show q <<< (k + 1) = 2 * (q <<< k) by rw [Nat.shiftLeft_succ], crc1_even, ih]
theorem crcs_lt {k s : Nat} (h : s < 65536) : crcs k s < 65536 := by
  induction k generalizing s with
  | zero => exact h
  | succ k ih => exact ih (crc1_lt h)
theorem crcs_eq_zero {k s : Nat} (h : s < 65536) (e : crcs k s = 0) : s = 0 := by
  induction k generalizing s with
  | zero => exact e
  | succ k ih => exact crc1_eq_zero h (ih (crc1_lt h) e)
theorem nextN_crcs (s c : Nat) : nextN s c = crcs 8 (s ^^^ c) := rfl

/-- Bytes as one number, the first the lowest. -/
def valN : List UInt8 → Nat
  | [] => 0
  | c :: l => c.toNat ^^^ (valN l <<< 8)
theorem sumFrom_val (l : List UInt8) : ∀ s, sumFrom s l = crcs (8 * l.length) (s ^^^ valN l) := by
  induction l with
  | nil => intro s; simp [sumFrom, valN, crcs]
  | cons c l ih =>
    intro s
    show sumFrom (nextN s c.toNat) l = _
    rw [ih, nextN_crcs, show 8 * (c :: l).length = 8 + 8 * l.length by rw [List.length_cons]; omega, crcs_add]
    congr 1
    show _ = crcs 8 (s ^^^ (c.toNat ^^^ valN l <<< 8))
    rw [← Nat.xor_assoc, crcs_xor 8 (s ^^^ c.toNat), crcs_shl]

/-- One bit turned, if there is such a byte. -/
def flipAt (l : List UInt8) (i : Nat) : List UInt8 := l.modify (i / 8) (· ^^^ UInt8.ofNat (2 ^ (i % 8)))
theorem flipAt_length (l : List UInt8) (i : Nat) : (flipAt l i).length = l.length := by simp [flipAt]
theorem ofNat_pow {i : Nat} (h : i < 8) : (UInt8.ofNat (2 ^ i)).toNat = 2 ^ i := by
  have : 2 ^ i < 2 ^ 8 := Nat.pow_lt_pow_right (by omega) h
  simp; omega
theorem flipAt_val (l : List UInt8) : ∀ i, valN (flipAt l i) = valN l ^^^ (if i < 8 * l.length then 2 ^ i else 0) := by
  induction l with
  | nil => intro i; simp [flipAt, valN]
  | cons c l ih =>
    intro i
    by_cases hi : i < 8
    · rw [if_pos (by rw [List.length_cons]; omega)]
      have h1 : flipAt (c :: l) i = (c ^^^ UInt8.ofNat (2 ^ i)) :: l := by
        unfold flipAt
        rw [show i / 8 = 0 by omega, show i % 8 = i by omega]
        rfl
      rw [h1]
      show (c ^^^ UInt8.ofNat (2 ^ i)).toNat ^^^ valN l <<< 8 = (c.toNat ^^^ valN l <<< 8) ^^^ 2 ^ i
      rw [UInt8.toNat_xor, ofNat_pow hi]
      ac_rfl
    · have h1 : flipAt (c :: l) i = c :: flipAt l (i - 8) := by
        unfold flipAt
        rw [show i / 8 = (i - 8) / 8 + 1 by omega, show i % 8 = (i - 8) % 8 by omega, List.modify_succ_cons]
      rw [h1]
      show c.toNat ^^^ valN (flipAt l (i - 8)) <<< 8 = (c.toNat ^^^ valN l <<< 8) ^^^ _
      rw [ih, Nat.shiftLeft_xor_distrib, Nat.xor_assoc]
      congr 2
      rw [List.length_cons]
      by_cases hl : i < 8 * (l.length + 1)
      · rw [if_pos hl, if_pos (by omega), Nat.shiftLeft_eq, ← Nat.pow_add, show i - 8 + 8 = i by omega]
      · rw [if_neg hl, if_neg (by omega)]
        rfl

/-- The first k bits of a pattern turned, from some place on. -/
def spoilK (l : List UInt8) (at_ p : Nat) : Nat → List UInt8
  | 0 => l
  | k + 1 => if p.testBit k = true ∧ at_ + k < 8 * l.length then flipAt (spoilK l at_ p k) (at_ + k) else spoilK l at_ p k
def anyK (l : List UInt8) (at_ p : Nat) : Nat → Bool
  | 0 => false
  | k + 1 => if p.testBit k = true ∧ at_ + k < 8 * l.length then true else anyK l at_ p k
def patK (l : List UInt8) (at_ p : Nat) : Nat → Nat
  | 0 => 0
  | k + 1 => if p.testBit k = true ∧ at_ + k < 8 * l.length then patK l at_ p k ^^^ 2 ^ k else patK l at_ p k
theorem spoilK_length (l : List UInt8) (at_ p k : Nat) : (spoilK l at_ p k).length = l.length := by
  induction k with
  | zero => rfl
  | succ k ih => unfold spoilK; split <;> simp [flipAt_length, ih]
theorem patK_lt (l : List UInt8) (at_ p k : Nat) : patK l at_ p k < 2 ^ k := by
  induction k with
  | zero => show 0 < 1; omega
  | succ k ih =>
    unfold patK
    have h2 : 2 ^ k < 2 ^ (k + 1) := Nat.pow_lt_pow_right (by omega) (by omega)
    split
    · exact Nat.xor_lt_two_pow (by omega) h2
    · omega
theorem anyK_pat (l : List UInt8) (at_ p k : Nat) : anyK l at_ p k = true ↔ patK l at_ p k ≠ 0 := by
  induction k with
  | zero => simp [anyK, patK]
  | succ k ih =>
    unfold anyK patK
    split
    · have h1 := patK_lt l at_ p k
      simp only [true_iff]
      intro h
      have := xor_zero_iff h
      omega
    · exact ih
theorem spoilK_same {l : List UInt8} {at_ p k : Nat} (h : anyK l at_ p k = false) : spoilK l at_ p k = l := by
  induction k with
  | zero => rfl
  | succ k ih =>
    unfold anyK at h
    unfold spoilK
    split at h
    · cases h
    · rename_i hc
      rw [if_neg hc]
      exact ih h
theorem spoilK_val (l : List UInt8) (at_ p k : Nat) : valN (spoilK l at_ p k) = valN l ^^^ (patK l at_ p k <<< at_) := by
  induction k with
  | zero => simp [spoilK, patK]
  | succ k ih =>
    unfold spoilK patK
    split
    · rename_i hc
      rw [flipAt_val, spoilK_length, if_pos hc.2, ih, Nat.shiftLeft_xor_distrib, Nat.xor_assoc]
      congr 2
      rw [Nat.shiftLeft_eq, ← Nat.pow_add, Nat.add_comm]
    · exact ih
/-- Bytes whose sum is 0 have another one when some bits within sixteen are turned. -/
theorem spoil_sum {l : List UInt8} {at_ p : Nat} (h0 : sumN l = 0) (hat : at_ ≤ 8 * l.length) (ha : anyK l at_ p 16 = true) : sumN (spoilK l at_ p 16) ≠ 0 := by
  intro h
  unfold sumN at h h0
  rw [sumFrom_val, spoilK_length, spoilK_val, ← Nat.xor_assoc, crcs_xor, ← sumFrom_val, h0, Nat.zero_xor, show 8 * l.length = at_ + (8 * l.length - at_) by omega, crcs_add, crcs_shl] at h
  exact (anyK_pat _ _ _ _).1 ha (crcs_eq_zero (patK_lt l at_ p 16) h)

/-- The two bytes behind a sum that make it 0 are its own. -/
theorem sum_two {s : Nat} (hs : s < 65536) {x y : UInt8} (h : sumFrom s [x, y] = 0) : x.toNat = s % 256 ∧ y.toNat = s / 256 := by
  have hx := x.toNat_lt
  have hy := y.toNat_lt
  rw [sumFrom_val] at h
  have h1 : crcs 16 (s ^^^ valN [x, y]) = 0 := h
  have hv : valN [x, y] = x.toNat ^^^ (y.toNat <<< 8) := by simp [valN]
  have hsh : y.toNat <<< 8 = y.toNat * 256 := by rw [Nat.shiftLeft_eq]
  have hlt : valN [x, y] < 65536 := by
    rw [hv, hsh]
    exact Nat.xor_lt_two_pow (n := 16) (by omega) (by omega)
  have h2 := xor_zero_iff (crcs_eq_zero (xor_lt hs hlt) h1)
  have h3 : valN [x, y] = y.toNat * 256 + x.toNat := by
    rw [hv, hsh]
    have h4 := Nat.two_pow_add_eq_or_of_lt (i := 8) (b := x.toNat) hx y.toNat
    apply Nat.eq_of_testBit_eq
    intro i
    rw [show y.toNat * 256 + x.toNat = 2 ^ 8 * y.toNat + x.toNat by omega, h4, Nat.testBit_xor, Nat.testBit_or, show y.toNat * 256 = 2 ^ 8 * y.toNat by omega, Nat.testBit_two_pow_mul]
    by_cases hi : 8 ≤ i
    · rw [Nat.testBit_lt_two_pow (x := x.toNat) (i := i) (Nat.lt_of_lt_of_le hx (Nat.pow_le_pow_right (n := 2) (by omega) hi))]
      simp
    · simp [hi]
  omega
end Go.Proofs.Ytiecncnmmecjcaa.CrcM
