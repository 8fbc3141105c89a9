/- CrcKit: what was CrcMath, CrcBurst, CrcOne, CrcTab, CrcNext, CrcSum, CrcRef, CrcPut, CrcCut, CrcRefCut. -/
import Derived.Test.YtenfcpdoingdeaaRows
import Derived.WalkKit
import Derived.WalkSpells
import Derived.Below
import Derived.Outline
import Derived.Laws.CopyOwn
import Derived.Lib.Hide
import Derived.Test.YtenfcpdoingdeaaMem
import Derived.Laws.BytesArg
import Derived.Deep.QuietTactic
import Derived.BigQuiet
/- Plain facts on the check sum of 16 bits, over natural numbers; no program is named here. -/
namespace Go.Proofs.Ytenfcpdoingdeaa.CrcM

/-- One bit shifted out. -/
def crc1 (s : Nat) : Nat := (s / 2) ^^^ (if s % 2 = 1 then 40961 else 0)
def crc4 (s : Nat) : Nat := crc1 (crc1 (crc1 (crc1 s)))
/-- One byte more. -/
def nextN (s c : Nat) : Nat := crc4 (crc4 (s ^^^ c))
def sumFrom (s : Nat) (l : List UInt8) : Nat := l.foldl (fun s c => nextN s c.toNat) s
def sumN (l : List UInt8) : Nat := sumFrom 65535 l

theorem crc1_zero : crc1 0 = 0 := by decide
theorem crc1_even (q : Nat) : crc1 (2 * q) = q := by
  unfold crc1
  rw [if_neg (by omega)]
  simp
theorem crc1_xor (a b : Nat) : crc1 (a ^^^ b) = crc1 a ^^^ crc1 b := by
  unfold crc1
  have h2 : (a ^^^ b) / 2 = a / 2 ^^^ b / 2 := Nat.xor_div_two
  have hm := @Nat.xor_mod_two_eq_one a b
  rw [h2]
  by_cases ha : a % 2 = 1 <;> by_cases hb : b % 2 = 1
  · rw [if_neg (by rw [hm]; simp [ha, hb]), if_pos ha, if_pos hb, Nat.xor_zero]
    rw [show a / 2 ^^^ 40961 ^^^ (b / 2 ^^^ 40961) = a / 2 ^^^ b / 2 ^^^ (40961 ^^^ 40961) by ac_rfl]
    simp
  · rw [if_pos (by rw [hm]; simp [ha, hb]), if_pos ha, if_neg hb]
    simp; ac_rfl
  · rw [if_pos (by rw [hm]; simp [ha, hb]), if_neg ha, if_pos hb]
    simp; ac_rfl
  · rw [if_neg (by rw [hm]; simp [ha, hb]), if_neg ha, if_neg hb]
    simp
theorem crc1_lt {s : Nat} (h : s < 65536) : crc1 s < 65536 := by
  unfold crc1
  exact Nat.xor_lt_two_pow (n := 16) (by omega) (by split <;> omega)
theorem xor_zero_iff {a b : Nat} (h : a ^^^ b = 0) : a = b := by
  have h1 : a ^^^ b ^^^ b = 0 ^^^ b := by rw [h]
  rwa [Nat.xor_assoc, Nat.xor_self, Nat.xor_zero, Nat.zero_xor] at h1
theorem crc1_eq_zero {s : Nat} (h : s < 65536) (e : crc1 s = 0) : s = 0 := by
  unfold crc1 at e
  have e2 : s / 2 = if s % 2 = 1 then 40961 else 0 := xor_zero_iff e
  by_cases hs : s % 2 = 1
  · rw [if_pos hs] at e2; omega
  · rw [if_neg hs] at e2; omega
theorem xor_lt {a b : Nat} (ha : a < 65536) (hb : b < 65536) : a ^^^ b < 65536 := Nat.xor_lt_two_pow (n := 16) ha hb

theorem crc4_zero : crc4 0 = 0 := by decide
theorem crc4_xor (a b : Nat) : crc4 (a ^^^ b) = crc4 a ^^^ crc4 b := by simp only [crc4, crc1_xor]
theorem crc4_lt {s : Nat} (h : s < 65536) : crc4 s < 65536 := crc1_lt (crc1_lt (crc1_lt (crc1_lt h)))
theorem crc4_eq_zero {s : Nat} (h : s < 65536) (e : crc4 s = 0) : s = 0 :=
  crc1_eq_zero h (crc1_eq_zero (crc1_lt h) (crc1_eq_zero (crc1_lt (crc1_lt h)) (crc1_eq_zero (crc1_lt (crc1_lt (crc1_lt h))) e)))
theorem crc4_16 (q : Nat) : crc4 (16 * q) = q := by
  unfold crc4
  rw [show 16 * q = 2 * (2 * (2 * (2 * q))) by omega, crc1_even, crc1_even, crc1_even, crc1_even]
/-- Four bits at a time, by the table of what becomes of the lower four. -/
theorem crc4_split (s : Nat) : crc4 s = s / 16 ^^^ crc4 (s % 16) := by
  have h : s = (16 * (s / 16)) ^^^ (s % 16) := by
    have h1 := Nat.two_pow_add_eq_or_of_lt (i := 4) (b := s % 16) (by omega) (s / 16)
    have h2 : 16 * (s / 16) + s % 16 = s := by omega
    have h3 : (16 * (s / 16)) &&& (s % 16) = 0 := by
      apply Nat.eq_of_testBit_eq
      intro i
      rw [Nat.testBit_and, Nat.zero_testBit]
      by_cases hi : i < 4
      · have : (16 * (s / 16)).testBit i = false := by
          rw [show 16 * (s / 16) = 2 ^ 4 * (s / 16) from rfl, Nat.testBit_two_pow_mul]
          simp; omega
        rw [this, Bool.false_and]
      · have : (s % 16).testBit i = false := Nat.testBit_lt_two_pow (Nat.lt_of_lt_of_le (show s % 16 < 2 ^ 4 by omega) (Nat.pow_le_pow_right (by omega) (by omega)))
        rw [this, Bool.and_false]
    have h4 : (16 * (s / 16)) ^^^ (s % 16) = (16 * (s / 16)) ||| (s % 16) := by
      apply Nat.eq_of_testBit_eq
      intro i
      have h5 := congrArg (fun n => n.testBit i) h3
      simp only [Nat.testBit_and, Nat.zero_testBit] at h5
      rw [Nat.testBit_xor, Nat.testBit_or]
      revert h5
      cases (16 * (s / 16)).testBit i <;> cases (s % 16).testBit i <;> simp
    rw [h4]
    have h6 : 2 ^ 4 * (s / 16) + s % 16 = 2 ^ 4 * (s / 16) ||| s % 16 := h1
    rw [show (16 * (s / 16)) = 2 ^ 4 * (s / 16) from rfl, ← h6]
    omega
  conv => lhs; rw [h]
  rw [crc4_xor, crc4_16]

theorem nextN_lt {s c : Nat} (hs : s < 65536) (hc : c < 65536) : nextN s c < 65536 := crc4_lt (crc4_lt (xor_lt hs hc))
theorem nextN_xor (s t c d : Nat) : nextN (s ^^^ t) (c ^^^ d) = nextN s c ^^^ nextN t d := by
  unfold nextN
  rw [← crc4_xor, ← crc4_xor]
  congr 2
  ac_rfl
theorem nextN_eq_zero {s c : Nat} (hs : s < 65536) (hc : c < 65536) (e : nextN s c = 0) : s = c := by
  unfold nextN at e
  exact xor_zero_iff (crc4_eq_zero (xor_lt hs hc) (crc4_eq_zero (crc4_lt (xor_lt hs hc)) e))
/-- Two sums, and two bytes, that come to one were one, changed together. -/
theorem nextN_inj {s t c d : Nat} (hs : s < 65536) (ht : t < 65536) (hc : c < 65536) (hd : d < 65536) (e : nextN s c = nextN t d) : s ^^^ t = c ^^^ d := by
  have h : nextN (s ^^^ t) (c ^^^ d) = 0 := by rw [nextN_xor, e, Nat.xor_self]
  exact nextN_eq_zero (xor_lt hs ht) (xor_lt hc hd) h
theorem nextN_inj_left {s t c : Nat} (hs : s < 65536) (ht : t < 65536) (hc : c < 65536) : nextN s c = nextN t c ↔ s = t := by
  refine ⟨fun e => ?_, fun e => by rw [e]⟩
  have h := nextN_inj hs ht hc hc e
  rw [Nat.xor_self] at h
  exact xor_zero_iff h
theorem nextN_inj_right {s c d : Nat} (hs : s < 65536) (hc : c < 65536) (hd : d < 65536) : nextN s c = nextN s d ↔ c = d := by
  refine ⟨fun e => ?_, fun e => by rw [e]⟩
  have h := nextN_inj hs hs hc hd e
  rw [Nat.xor_self] at h
  exact xor_zero_iff h.symm

theorem sumFrom_lt (l : List UInt8) : ∀ {s : Nat}, s < 65536 → sumFrom s l < 65536 := by
  induction l with
  | nil => intro s h; exact h
  | cons c l ih => intro s h; exact ih (nextN_lt h (by have := c.toNat_lt; omega))
theorem sumN_lt (l : List UInt8) : sumN l < 65536 := sumFrom_lt l (by omega)
theorem sumFrom_append (s : Nat) (l m : List UInt8) : sumFrom s (l ++ m) = sumFrom (sumFrom s l) m := List.foldl_append ..
theorem sumFrom_snoc (s : Nat) (l : List UInt8) (c : UInt8) : sumFrom s (l ++ [c]) = nextN (sumFrom s l) c.toNat := by rw [sumFrom_append]; rfl
/-- What a round of a loop over bytes does. -/
theorem sumFrom_take (s : Nat) (l : List UInt8) {k : Nat} {c : UInt8} (h : l[k]? = some c) : sumFrom s (l.take (k + 1)) = nextN (sumFrom s (l.take k)) c.toNat := by
  rw [List.take_add_one, h]
  exact sumFrom_snoc ..
/-- The sum of bytes with their own sum behind them is 0. -/
theorem sumFrom_own {s : Nat} (hs : s < 65536) : sumFrom s [UInt8.ofNat (s % 256), UInt8.ofNat (s / 256)] = 0 := by
  have h1 : (UInt8.ofNat (s % 256)).toNat = s % 256 := by simp
  have h2 : (UInt8.ofNat (s / 256)).toNat = s / 256 := by simp; omega
  show nextN (nextN s (UInt8.ofNat (s % 256)).toNat) (UInt8.ofNat (s / 256)).toNat = 0
  rw [h1, h2]
  have h3 : s ^^^ s % 256 = 256 * (s / 256) := by
    have h4 := Nat.two_pow_add_eq_or_of_lt (i := 8) (b := s % 256) (by omega) (s / 256)
    apply Nat.eq_of_testBit_eq
    intro i
    rw [Nat.testBit_xor, show s % 256 = s % 2 ^ 8 from rfl, Nat.testBit_mod_two_pow, show 256 * (s / 256) = 2 ^ 8 * (s / 2 ^ 8) from rfl, Nat.testBit_two_pow_mul, Nat.testBit_div_two_pow]
    by_cases hi : i < 8
    · simp [hi]; omega
    · rw [show i - 8 + 8 = i by omega]
      simp [hi]; omega
  have h5 : nextN s (s % 256) = s / 256 := by
    unfold nextN
    rw [h3, show 256 * (s / 256) = 16 * (16 * (s / 256)) by omega, crc4_16, crc4_16]
  rw [h5]
  unfold nextN
  rw [Nat.xor_self]
  decide
theorem sumN_own (l : List UInt8) : sumN (l ++ [UInt8.ofNat (sumN l % 256), UInt8.ofNat (sumN l / 256)]) = 0 := by
  unfold sumN
  rw [sumFrom_append]
  exact sumFrom_own (sumFrom_lt l (by omega))

/-- Three rows of bytes, changed bit by bit together. -/
def xor3 : List UInt8 → List UInt8 → List UInt8 → List UInt8
  | a :: l, b :: m, c :: n => (a ^^^ b ^^^ c) :: xor3 l m n
  | _, _, _ => []
theorem sumFrom_xor3 : ∀ (l m n : List UInt8) (s t u : Nat), l.length = m.length → m.length = n.length →
    sumFrom (s ^^^ t ^^^ u) (xor3 l m n) = sumFrom s l ^^^ sumFrom t m ^^^ sumFrom u n
  | [], [], [], _, _, _, _, _ => rfl
  | a :: l, b :: m, c :: n, s, t, u, h1, h2 => by
    show sumFrom (nextN (s ^^^ t ^^^ u) (a ^^^ b ^^^ c).toNat) (xor3 l m n) = sumFrom (nextN s a.toNat) l ^^^ sumFrom (nextN t b.toNat) m ^^^ sumFrom (nextN u c.toNat) n
    rw [← sumFrom_xor3 l m n _ _ _ (by simpa using h1) (by simpa using h2), UInt8.toNat_xor, UInt8.toNat_xor, nextN_xor, nextN_xor]
  | [], [], _ :: _, _, _, _, _, h => by simp at h
  | [], _ :: _, _, _, _, _, h, _ => by simp at h
  | _ :: _, [], _, _, _, _, h, _ => by simp at h
  | _ :: _, _ :: _, [], _, _, _, _, h => by simp at h
theorem sumN_xor3 (l m n : List UInt8) (h1 : l.length = m.length) (h2 : m.length = n.length) : sumN (xor3 l m n) = sumN l ^^^ sumN m ^^^ sumN n := by
  have h := sumFrom_xor3 l m n 65535 65535 65535 h1 h2
  rw [show (65535 : Nat) ^^^ 65535 ^^^ 65535 = 65535 by decide] at h
  exact h
end Go.Proofs.Ytenfcpdoingdeaa.CrcM
/- Bits turned within sixteen beside one another: the check sum tells it. Plain facts, no program is named here. -/
namespace Go.Proofs.Ytenfcpdoingdeaa.CrcM

/-- So many bits shifted out. -/
def crcs : Nat → Nat → Nat
  | 0, s => s
  | k + 1, s => crcs k (crc1 s)
theorem crcs_add (a b s : Nat) : crcs (a + b) s = crcs b (crcs a s) := by
  induction a generalizing s with
  | zero => rw [Nat.zero_add]; rfl
  | succ a ih => rw [show a + 1 + b = (a + b) + 1 by omega]; exact ih _
theorem crcs_xor (k a b : Nat) : crcs k (a ^^^ b) = crcs k a ^^^ crcs k b := by
  induction k generalizing a b with
  | zero => rfl
  | succ k ih => show crcs k (crc1 (a ^^^ b)) = _; rw [crc1_xor, ih]; rfl
theorem crcs_shl (k q : Nat) : crcs k (q <<< k) = q := by
  induction k generalizing q with
  | zero => rfl
  | succ k ih =>
    show crcs k (crc1 (q <<< (k + 1))) = q
    rw [show q <<< (k + 1) = 2 * (q <<< k) by rw [Nat.shiftLeft_succ], crc1_even, ih]
theorem crcs_lt {k s : Nat} (h : s < 65536) : crcs k s < 65536 := by
  induction k generalizing s with
  | zero => exact h
  | succ k ih => exact ih (crc1_lt h)
theorem crcs_eq_zero {k s : Nat} (h : s < 65536) (e : crcs k s = 0) : s = 0 := by
  induction k generalizing s with
  | zero => exact e
  | succ k ih => exact crc1_eq_zero h (ih (crc1_lt h) e)
theorem nextN_crcs (s c : Nat) : nextN s c = crcs 8 (s ^^^ c) := rfl

/-- Bytes as one number, the first the lowest. -/
def valN : List UInt8 → Nat
  | [] => 0
  | c :: l => c.toNat ^^^ (valN l <<< 8)
theorem sumFrom_val (l : List UInt8) : ∀ s, sumFrom s l = crcs (8 * l.length) (s ^^^ valN l) := by
  induction l with
  | nil => intro s; simp [sumFrom, valN, crcs]
  | cons c l ih =>
    intro s
    show sumFrom (nextN s c.toNat) l = _
    rw [ih, nextN_crcs, show 8 * (c :: l).length = 8 + 8 * l.length by rw [List.length_cons]; omega, crcs_add]
    congr 1
    show _ = crcs 8 (s ^^^ (c.toNat ^^^ valN l <<< 8))
    rw [← Nat.xor_assoc, crcs_xor 8 (s ^^^ c.toNat), crcs_shl]

/-- One bit turned, if there is such a byte. -/
def flipAt (l : List UInt8) (i : Nat) : List UInt8 := l.modify (i / 8) (· ^^^ UInt8.ofNat (2 ^ (i % 8)))
theorem flipAt_length (l : List UInt8) (i : Nat) : (flipAt l i).length = l.length := by simp [flipAt]
theorem ofNat_pow {i : Nat} (h : i < 8) : (UInt8.ofNat (2 ^ i)).toNat = 2 ^ i := by
  have : 2 ^ i < 2 ^ 8 := Nat.pow_lt_pow_right (by omega) h
  simp; omega
theorem flipAt_val (l : List UInt8) : ∀ i, valN (flipAt l i) = valN l ^^^ (if i < 8 * l.length then 2 ^ i else 0) := by
  induction l with
  | nil => intro i; simp [flipAt, valN]
  | cons c l ih =>
    intro i
    by_cases hi : i < 8
    · rw [if_pos (by rw [List.length_cons]; omega)]
      have h1 : flipAt (c :: l) i = (c ^^^ UInt8.ofNat (2 ^ i)) :: l := by
        unfold flipAt
        rw [show i / 8 = 0 by omega, show i % 8 = i by omega]
        rfl
      rw [h1]
      show (c ^^^ UInt8.ofNat (2 ^ i)).toNat ^^^ valN l <<< 8 = (c.toNat ^^^ valN l <<< 8) ^^^ 2 ^ i
      rw [UInt8.toNat_xor, ofNat_pow hi]
      ac_rfl
    · have h1 : flipAt (c :: l) i = c :: flipAt l (i - 8) := by
        unfold flipAt
        rw [show i / 8 = (i - 8) / 8 + 1 by omega, show i % 8 = (i - 8) % 8 by omega, List.modify_succ_cons]
      rw [h1]
      show c.toNat ^^^ valN (flipAt l (i - 8)) <<< 8 = (c.toNat ^^^ valN l <<< 8) ^^^ _
      rw [ih, Nat.shiftLeft_xor_distrib, Nat.xor_assoc]
      congr 2
      rw [List.length_cons]
      by_cases hl : i < 8 * (l.length + 1)
      · rw [if_pos hl, if_pos (by omega), Nat.shiftLeft_eq, ← Nat.pow_add, show i - 8 + 8 = i by omega]
      · rw [if_neg hl, if_neg (by omega)]
        rfl

/-- The first k bits of a pattern turned, from some place on. -/
def spoilK (l : List UInt8) (at_ p : Nat) : Nat → List UInt8
  | 0 => l
  | k + 1 => if p.testBit k = true ∧ at_ + k < 8 * l.length then flipAt (spoilK l at_ p k) (at_ + k) else spoilK l at_ p k
def anyK (l : List UInt8) (at_ p : Nat) : Nat → Bool
  | 0 => false
  | k + 1 => if p.testBit k = true ∧ at_ + k < 8 * l.length then true else anyK l at_ p k
def patK (l : List UInt8) (at_ p : Nat) : Nat → Nat
  | 0 => 0
  | k + 1 => if p.testBit k = true ∧ at_ + k < 8 * l.length then patK l at_ p k ^^^ 2 ^ k else patK l at_ p k
theorem spoilK_length (l : List UInt8) (at_ p k : Nat) : (spoilK l at_ p k).length = l.length := by
  induction k with
  | zero => rfl
  | succ k ih => unfold spoilK; split <;> simp [flipAt_length, ih]
theorem patK_lt (l : List UInt8) (at_ p k : Nat) : patK l at_ p k < 2 ^ k := by
  induction k with
  | zero => show 0 < 1; omega
  | succ k ih =>
    unfold patK
    have h2 : 2 ^ k < 2 ^ (k + 1) := Nat.pow_lt_pow_right (by omega) (by omega)
    split
    · exact Nat.xor_lt_two_pow (by omega) h2
    · omega
theorem anyK_pat (l : List UInt8) (at_ p k : Nat) : anyK l at_ p k = true ↔ patK l at_ p k ≠ 0 := by
  induction k with
  | zero => simp [anyK, patK]
  | succ k ih =>
    unfold anyK patK
    split
    · have h1 := patK_lt l at_ p k
      simp only [true_iff]
      intro h
      have := xor_zero_iff h
      omega
    · exact ih
theorem spoilK_same {l : List UInt8} {at_ p k : Nat} (h : anyK l at_ p k = false) : spoilK l at_ p k = l := by
  induction k with
  | zero => rfl
  | succ k ih =>
    unfold anyK at h
    unfold spoilK
    split at h
    · cases h
    · rename_i hc
      rw [if_neg hc]
      exact ih h
theorem spoilK_val (l : List UInt8) (at_ p k : Nat) : valN (spoilK l at_ p k) = valN l ^^^ (patK l at_ p k <<< at_) := by
  induction k with
  | zero => simp [spoilK, patK]
  | succ k ih =>
    unfold spoilK patK
    split
    · rename_i hc
      rw [flipAt_val, spoilK_length, if_pos hc.2, ih, Nat.shiftLeft_xor_distrib, Nat.xor_assoc]
      congr 2
      rw [Nat.shiftLeft_eq, ← Nat.pow_add, Nat.add_comm]
    · exact ih
/-- Bytes whose sum is 0 have another one when some bits within sixteen are turned. -/
theorem spoil_sum {l : List UInt8} {at_ p : Nat} (h0 : sumN l = 0) (hat : at_ ≤ 8 * l.length) (ha : anyK l at_ p 16 = true) : sumN (spoilK l at_ p 16) ≠ 0 := by
  intro h
  unfold sumN at h h0
  rw [sumFrom_val, spoilK_length, spoilK_val, ← Nat.xor_assoc, crcs_xor, ← sumFrom_val, h0, Nat.zero_xor, show 8 * l.length = at_ + (8 * l.length - at_) by omega, crcs_add, crcs_shl] at h
  exact (anyK_pat _ _ _ _).1 ha (crcs_eq_zero (patK_lt l at_ p 16) h)

/-- The two bytes behind a sum that make it 0 are its own. -/
theorem sum_two {s : Nat} (hs : s < 65536) {x y : UInt8} (h : sumFrom s [x, y] = 0) : x.toNat = s % 256 ∧ y.toNat = s / 256 := by
  have hx := x.toNat_lt
  have hy := y.toNat_lt
  rw [sumFrom_val] at h
  have h1 : crcs 16 (s ^^^ valN [x, y]) = 0 := h
  have hv : valN [x, y] = x.toNat ^^^ (y.toNat <<< 8) := by simp [valN]
  have hsh : y.toNat <<< 8 = y.toNat * 256 := by rw [Nat.shiftLeft_eq]
  have hlt : valN [x, y] < 65536 := by
    rw [hv, hsh]
    exact Nat.xor_lt_two_pow (n := 16) (by omega) (by omega)
  have h2 := xor_zero_iff (crcs_eq_zero (xor_lt hs hlt) h1)
  have h3 : valN [x, y] = y.toNat * 256 + x.toNat := by
    rw [hv, hsh]
    have h4 := Nat.two_pow_add_eq_or_of_lt (i := 8) (b := x.toNat) hx y.toNat
    apply Nat.eq_of_testBit_eq
    intro i
    rw [show y.toNat * 256 + x.toNat = 2 ^ 8 * y.toNat + x.toNat by omega, h4, Nat.testBit_xor, Nat.testBit_or, show y.toNat * 256 = 2 ^ 8 * y.toNat by omega, Nat.testBit_two_pow_mul]
    by_cases hi : 8 ≤ i
    · rw [Nat.testBit_lt_two_pow (x := x.toNat) (i := i) (Nat.lt_of_lt_of_le hx (Nat.pow_le_pow_right (n := 2) (by omega) hi))]
      simp
    · simp [hi]
  omega
end Go.Proofs.Ytenfcpdoingdeaa.CrcM
/- The calls of package crc that make nothing but a table: one bit, the table, one byte more. -/
open Go.RowKit
namespace Go.Proofs.Ytenfcpdoingdeaa.CrcW
open CrcM

theorem u16_and1 (s : Nat) (h : s < 65536) : bits .and .u16 (s : Int) 1 = ((s % 2 : Nat) : Int) := by
  have h1 := u16_and_nat s 1 h (by omega)
  rw [Nat.and_one_is_mod] at h1
  exact h1
theorem u16_poly (s : Nat) (h : s < 65536) : bits .xor .u16 ((s : Int) / 2) 40961 = ((s / 2 ^^^ 40961 : Nat) : Int) := by
  have h1 := u16_xor_nat (s / 2) 40961 (by omega) (by omega)
  rw [← h1]
  simp

theorem shift_odd (s : Nat) (h : s < 65536) (h2 : s % 2 = 1) (w : World) :
    Calls Try.prog 84 #[.int .u16 s] w fun e w' => e = .returned (.int .u16 (crc1 s)) ∧ w = w' := by
  have ha := u16_and1 s h
  have hp := u16_poly s h
  have hc : crc1 s = s / 2 ^^^ 40961 := by unfold crc1; rw [if_pos h2]
  rw [h2] at ha
  rw [hc, ← hp]
  clear hc hp
  go_enter Try.func84, Try.ntmps84
  go_wp2
  go_ret
  exact ⟨rfl, rfl⟩
theorem shift_even (s : Nat) (h : s < 65536) (h2 : s % 2 = 0) (w : World) :
    Calls Try.prog 84 #[.int .u16 s] w fun e w' => e = .returned (.int .u16 (crc1 s)) ∧ w = w' := by
  have ha := u16_and1 s h
  have hc : crc1 s = s / 2 := by unfold crc1; rw [if_neg (by omega)]; simp
  rw [h2] at ha
  rw [hc]
  clear hc
  go_enter Try.func84, Try.ntmps84
  go_wp2
  go_ret
  exact ⟨rfl, rfl⟩
theorem shift_any (n : Int) (h0 : 0 ≤ n) (h : n < 65536) (w : World) :
    Calls Try.prog 84 #[.int .u16 n] w fun e w' => e = .returned (.int .u16 (crc1 n.toNat)) ∧ w = w' := by
  obtain ⟨s, rfl⟩ := Int.eq_ofNat_of_zero_le h0
  rcases Nat.mod_two_eq_zero_or_one s with h2 | h2
  · exact shift_even s (by omega) h2 w
  · exact shift_odd s (by omega) h2 w
end Go.Proofs.Ytenfcpdoingdeaa.CrcW
/- The table of what becomes of each four bits. -/
open Go.RowKit
namespace Go.Proofs.Ytenfcpdoingdeaa.CrcW
open CrcM

/-- The table's cells when the first k are filled. -/
def tabTo (k : Nat) : Array Value := ((List.range 16).map fun i => Value.int .u16 (if i < k then (crc4 i : Int) else 0)).toArray
def tab : Array Value := tabTo 16
theorem tabTo_zero : tabTo 0 = #[.int .u16 0, .int .u16 0, .int .u16 0, .int .u16 0, .int .u16 0, .int .u16 0, .int .u16 0, .int .u16 0, .int .u16 0, .int .u16 0, .int .u16 0, .int .u16 0, .int .u16 0, .int .u16 0, .int .u16 0, .int .u16 0] := by rfl
theorem tabTo_size (k : Nat) : (tabTo k).size = 16 := by simp [tabTo]
theorem tabTo_at (k i : Nat) (h : i < 16) : (tabTo k)[i]? = some (.int .u16 (if i < k then (crc4 i : Int) else 0)) := by
  simp [tabTo, h]
theorem tab_at (i : Nat) (h : i < 16) : tab[i]? = some (.int .u16 (crc4 i : Int)) := by
  have := tabTo_at 16 i h
  rwa [if_pos h] at this
theorem tabTo_succ (k : Nat) (h : k < 16) : (tabTo k).setIfInBounds k (.int .u16 (crc4 k : Int)) = tabTo (k + 1) := by
  apply Array.ext_getElem?
  intro i
  by_cases hi : i < 16
  · rw [tabTo_at _ i hi, Array.getElem?_setIfInBounds]
    by_cases e : k = i
    · subst e
      rw [if_pos rfl, if_pos (by rw [tabTo_size]; exact h), if_pos (by omega)]
    · rw [if_neg e, tabTo_at _ i hi]
      by_cases hk : i < k
      · rw [if_pos hk, if_pos (by omega)]
      · rw [if_neg hk, if_neg (by omega)]
  · rw [Array.getElem?_eq_none (by simp [tabTo_size]; omega), Array.getElem?_eq_none (by rw [tabTo_size]; omega)]

def crc1s : Nat → Nat → Nat
  | 0, s => s
  | k + 1, s => crc1 (crc1s k s)
theorem crc1s_lt (k : Nat) {s : Nat} (h : s < 65536) : crc1s k s < 65536 := by
  induction k with
  | zero => exact h
  | succ k ih => exact crc1_lt ih

/-- What holds of the world in the table's loop: the answer's block is as it was made, the table's has its first k cells filled. -/
def TabW (w wr : World) (k : Nat) : Prop :=
  Below w.heap.size w wr ∧ wr.heap[w.heap.size]? = some (.cells (tabTo 0) 108 (0, 0)) ∧ wr.heap[w.heap.size + 1]? = some (.cells (tabTo k) 108 (0, 0))
theorem TabW.start (w : World) : TabW w ((w.alloc (.cells (tabTo 0) 108)).alloc (.cells (tabTo 0) 108)) 0 :=
  ⟨((Below.refl _ _).alloc (Nat.le_refl _) _).alloc (by simp) _, heap_alloc2_old w _ _, heap_alloc2_new w _ _⟩
theorem TabW.store {w wr : World} {k : Nat} (h : TabW w wr k) (hk : k < 16) : TabW w (wr.setCell ⟨w.heap.size + 1, k, none⟩ (.int .u16 (crc4 k : Int))) (k + 1) :=
  ⟨h.1.setCell (by simp) _, by rw [heap_setCell_other _ _ _ _ (by simp)]; exact h.2.1, by rw [heap_setCell_same _ _ _ _ _ _ h.2.2, tabTo_succ k hk]⟩
theorem TabW.cell {w wr : World} {k : Nat} (h : TabW w wr k) (hk : k < 16) : wr.cell? ⟨w.heap.size + 1, k, none⟩ = some (.int .u16 0) := by
  rw [cell_of_row _ _ _ _ _ _ h.2.2, tabTo_at _ _ hk, if_neg (by omega)]

set_option maxHeartbeats 400000 in
theorem table_any (w : World) :
    Calls Try.prog 81 #[] w fun e w' => e = .returned (.agg tab) ∧ Below w.heap.size w w' := by
  have h0 := TabW.start w
  rw [tabTo_zero] at h0
  have H0 := Lib.hid h0
  clear h0
  go_enter Try.func81, Try.ntmps81
  go_wp2
  go_loopw [4] (fun c wr => ∃ k : Nat, k ≤ 16 ∧ c = .int .u16 k ∧ TabW w wr k) (fun c _ => 16 - (intOf c).toNat)
  case atStart => exact ⟨0, by omega, rfl, H0.out⟩
  case round =>
    obtain ⟨k, hk, rfl, hr⟩ := hrel
    by_cases hlt : k < 16
    · clear H0
      have hb : decide ((k : Int) < 16) = true := by simp; omega
      go_wp2
      obtain ⟨wo, rfl⟩ : ∃ wo : World, wo = wr := ⟨_, rfl⟩
      go_loop [3, 8] (fun s c => ∃ j : Nat, j ≤ 4 ∧ c = .int .i64 j ∧ s = .int .u16 (crc1s j k)) (fun _ c => 4 - (intOf c).toNat)
      case atStart => exact ⟨0, by omega, rfl, rfl⟩
      case round =>
        obtain ⟨j, hj, rfl, rfl⟩ := hrel
        have hs := crc1s_lt j (s := k) (by omega)
        by_cases hl : j < 4
        · go_wp2_with (go_at_call 84; refine (shift_any _ (by omega) (by omega) _).mono ?_; rintro e w' ⟨rfl, rfl⟩)
          go_round
          case rel => exact ⟨j + 1, by omega, by go_num, rfl⟩
          case measure => simp [intOf]; omega
        · obtain rfl : j = 4 := by omega
          have hcell := hr.cell hlt
          have hfz := frozen_of_row _ _ k _ _ hr.2.2
          have hst := Lib.hid (hr.store hlt)
          go_wp2
          go_roundw
          case rel => exact ⟨k + 1, by omega, by go_num, hst.out⟩
          case measure => simp [intOf]; omega
    · obtain rfl : k = 16 := by omega
      go_wp2_with (first | (refine wpList_load_row rfl 108 (.tmp 1) rfl (w.heap.size + 1) rfl 108 tab (0, 0) _ hr.2.2 Try.underlying108 rfl (by kernel_rfl) ?_) | (refine wpList_store_row rfl 108 (.tmp 0) (.tmp 17) rfl w.heap.size tab rfl rfl 108 (tabTo 0) hr.2.1 (by kernel_rfl) (by kernel_rfl) (by kernel_rfl) ?_))
      exact bodyPost_ret (results_cell_row rfl _ _ w.heap.size 108 tab (0, 0) _ rfl (setRow_heap _ _ _ _ _ _ hr.2.1) Try.underlying108 rfl (by kernel_rfl)) rfl ⟨rfl, below_setRow hr.1 (Nat.le_refl _) _⟩
end Go.Proofs.Ytenfcpdoingdeaa.CrcW
/- One byte more, by the table and bit by bit. -/
open Go.RowKit
namespace Go.Proofs.Ytenfcpdoingdeaa.CrcW
open CrcM

def crc4s : Nat → Nat → Nat
  | 0, s => s
  | k + 1, s => crc4 (crc4s k s)
theorem crc4s_lt (k : Nat) {s : Nat} (h : s < 65536) : crc4s k s < 65536 := by
  induction k with
  | zero => exact h
  | succ k ih => exact crc4_lt ih
theorem u16_and15 (s : Nat) (h : s < 65536) : bits .and .u16 (s : Int) 15 = ((s % 16 : Nat) : Int) := by
  have h1 := u16_and_nat s 15 h (by omega)
  rw [show s &&& 15 = s % 16 from Nat.and_two_pow_sub_one_eq_mod s 4] at h1
  exact h1
theorem u16_four (s : Nat) (h : s < 65536) : bits .xor .u16 ((s : Int) / 16) ((crc4 (s % 16) : Nat) : Int) = ((crc4 s : Nat) : Int) := by
  have h1 := u16_xor_nat (s / 16) (crc4 (s % 16)) (by omega) (crc4_lt (by omega))
  rw [← crc4_split] at h1
  rw [← h1]
  simp
theorem u16_in (s c : Nat) (h : s < 65536) (hc : c < 65536) : bits .xor .u16 (s : Int) (c : Int) = ((s ^^^ c : Nat) : Int) := u16_xor_nat s c h hc

set_option maxHeartbeats 400000 in
theorem next_nat (g s c : Nat) (hs : s < 65536) (hc : c < 256) (w : World) (hg : w.heap[g]? = some (.cells tab 108 (0, 0))) :
    Calls Try.prog 82 #[.pointer (some ⟨g, 0, none⟩), .int .u16 s, .int .u8 c] w fun e w' => e = .returned (.int .u16 (nextN s c)) ∧ w = w' := by
  have hx := u16_in s c hs (by omega)
  go_enter Try.func82, Try.ntmps82
  go_wp2
  clear hx
  go_loop [1, 11] (fun t i => ∃ j : Nat, j ≤ 2 ∧ i = .int .i64 j ∧ t = .int .u16 (crc4s j (s ^^^ c))) (fun _ i => 2 - (intOf i).toNat)
  case atStart => exact ⟨0, by omega, rfl, rfl⟩
  case round =>
    obtain ⟨j, hj, rfl, rfl⟩ := hrel
    have hlt := crc4s_lt j (s := s ^^^ c) (xor_lt hs (by omega))
    by_cases hl : j < 2
    · have hfin : crc4 (crc4s j (s ^^^ c)) = crc4s (j + 1) (s ^^^ c) := rfl
      have HF := Lib.hid hfin
      clear hfin
      generalize crc4s j (s ^^^ c) = x at *
      have ha := u16_and15 x hlt
      have hb := u16_four x hlt
      have hcell : w.cell? ⟨g, x % 16, none⟩ = some (.int .u16 (crc4 (x % 16) : Int)) := by
        rw [cell_of_row _ _ _ _ _ _ hg]; exact tab_at _ (by omega)
      have h16 : x % 16 < 16 := by omega
      clear hg
      go_wp2
      go_round
      case rel => exact ⟨j + 1, by omega, by go_num, by rw [HF.out]⟩
      case measure => simp [intOf]; omega
    · obtain rfl : j = 2 := by omega
      go_wp2
      go_ret
      exact ⟨rfl, rfl⟩
end Go.Proofs.Ytenfcpdoingdeaa.CrcW
/- Sums: of one byte more, and of bytes, by the program and by the document's own answer; and their two halves. -/
open Go.RowKit
namespace Go.Proofs.Ytenfcpdoingdeaa.CrcW
open CrcM Mem

theorem next_any (g : Nat) (n m : Int) (h0 : 0 ≤ n) (h1 : n < 65536) (h2 : 0 ≤ m) (h3 : m < 256) (w : World) (hg : w.heap[g]? = some (.cells tab 108 (0, 0))) :
    Calls Try.prog 82 #[.pointer (some ⟨g, 0, none⟩), .int .u16 n, .int .u8 m] w fun e w' => e = .returned (.int .u16 (nextN n.toNat m.toNat)) ∧ w = w' := by
  obtain ⟨s, rfl⟩ := Int.eq_ofNat_of_zero_le h0
  obtain ⟨c, rfl⟩ := Int.eq_ofNat_of_zero_le h2
  exact next_nat g s c (by omega) (by omega) w hg

theorem zeros_new (w : World) : (w.alloc (.cells #[.int .u16 0, .int .u16 0, .int .u16 0, .int .u16 0, .int .u16 0, .int .u16 0, .int .u16 0, .int .u16 0, .int .u16 0, .int .u16 0, .int .u16 0, .int .u16 0, .int .u16 0, .int .u16 0, .int .u16 0, .int .u16 0] 108)).heap[w.heap.size]? = some (.cells (tabTo 0) 108 (0, 0)) := by
  rw [tabTo_zero]; exact heap_alloc_new w _

def tabIn (w : World) : World := (w.alloc (.cells #[.int .u16 0, .int .u16 0, .int .u16 0, .int .u16 0, .int .u16 0, .int .u16 0, .int .u16 0, .int .u16 0, .int .u16 0, .int .u16 0, .int .u16 0, .int .u16 0, .int .u16 0, .int .u16 0, .int .u16 0, .int .u16 0] 108)).setRow w.heap.size tab
theorem tabIn_there (w : World) : (tabIn w).heap[w.heap.size]? = some (.cells tab 108 (0, 0)) := setRow_heap _ _ _ _ _ _ (zeros_new w)
theorem tabIn_below (w : World) : Below w.heap.size w (tabIn w) := below_setRow ((Below.refl _ _).alloc (Nat.le_refl _) _) (Nat.le_refl _) _

theorem Sum_any (a : Option Addr) (n c : Nat) (l : List UInt8) (w : World) (hl : Sl b8 w w.heap.size a n c l) :
    Calls Try.prog 78 #[.slice a n c] w (Says (.int .u16 (sumN l)) w) := by
  have hn : n ≤ 9223372036854775807 := by have h1 := hl.nle; have h2 := hl.cle; unfold maxLen at h2; omega
  go_enter Try.func78, Try.ntmps78
  go_wp2_with fail
  refine (table_any _).mono ?_
  rintro e w1 ⟨rfl, hb1⟩
  go_wp2_with (refine wpList_store_row rfl 108 (.tmp 3) (.tmp 7) rfl w1.heap.size tab rfl rfl 108 (tabTo 0) (zeros_new w1) (by kernel_rfl) (by kernel_rfl) (by kernel_rfl) ?_)
  have hT := tabIn_there w1
  have hB := hb1.trans ((tabIn_below w1).mono hb1.size)
  change Code.wp _ _ _ _ (tabIn w1)
  generalize tabIn w1 = W at *
  clear hb1
  generalize w1.heap.size = g at *
  have hL := hl.below hB (Nat.le_refl _)
  go_loop [4, 10] (fun s i => ∃ k : Nat, k ≤ n ∧ i = .int .i64 k ∧ s = .int .u16 (sumN (l.take k))) (fun _ i => n - (intOf i).toNat)
  case atStart => exact ⟨0, by omega, rfl, rfl⟩
  case round =>
    obtain ⟨k, hk, rfl, rfl⟩ := hrel
    have hs := sumN_lt (l.take k)
    by_cases hlt : k < n
    · obtain ⟨b, off, x, rfl, hbk, hx, hcell⟩ := hL.at_ hlt
      have HS := Lib.hid (sumFrom_take 65535 l hx)
      have hx8 := x.toNat_lt
      generalize hS : sumN (l.take k) = S at *
      have HS2 := Lib.hid hS
      clear hS hx hl hL
      have hb : decide ((k : Int) < (n : Int)) = true := by simp; omega
      go_wp2_with (go_at_call 82; refine (next_any g _ _ (by omega) (by omega) (by omega) (by omega) _ hT).mono ?_; rintro e w2 ⟨rfl, rfl⟩)
      go_round
      case rel => exact ⟨k + 1, by omega, by go_num, by rw [sumN, HS.out, ← HS2.out]; rfl⟩
      case measure => simp [intOf]; omega
    · obtain rfl : k = n := by omega
      clear hl
      have hb : decide ((k : Int) < (k : Int)) = false := by simp
      go_wp2
      go_ret
      rw [List.take_of_length_le (by rw [hL.len]; exact Nat.le_refl _)]
      exact Says.mk hB
end Go.Proofs.Ytenfcpdoingdeaa.CrcW
/- The document's own answer: one byte more, bit by bit, and sums; halves; whether bytes are the same. -/
open Go.RowKit
namespace Go.Proofs.Ytenfcpdoingdeaa.CrcW
open CrcM Mem

theorem crc1s_8 (x : Nat) : crc1s 8 x = crc4 (crc4 x) := rfl

set_option maxHeartbeats 400000 in
set_option maxRecDepth 100000 in
theorem refNext_nat (s c : Nat) (hs : s < 65536) (hc : c < 256) (w : World) :
    Calls Try.prog 83 #[.int .u16 s, .int .u8 c] w fun e w' => e = .returned (.int .u16 (nextN s c)) ∧ w = w' := by
  have hx := u16_in s c hs (by omega)
  go_enter Try.func83, Try.ntmps83
  go_wp2
  clear hx
  go_loop [0, 5] (fun t i => ∃ j : Nat, j ≤ 8 ∧ i = .int .i64 j ∧ t = .int .u16 (crc1s j (s ^^^ c))) (fun _ i => 8 - (intOf i).toNat)
  case atStart => exact ⟨0, by omega, rfl, rfl⟩
  case round =>
    obtain ⟨j, hj, rfl, rfl⟩ := hrel
    have hlt := crc1s_lt j (s := s ^^^ c) (xor_lt hs (by omega))
    by_cases hl : j < 8
    · have HF := Lib.hid (show crc1 (crc1s j (s ^^^ c)) = crc1s (j + 1) (s ^^^ c) from rfl)
      generalize crc1s j (s ^^^ c) = x at *
      have hp := u16_poly x hlt
      rcases Nat.mod_two_eq_zero_or_one x with h2 | h2
      · have hc1 : crc1 x = x / 2 := by unfold crc1; rw [if_neg (by omega)]; simp
        have HC := Lib.hid hc1
        have hm : ((x : Int) % 2 == 1) = false := by simp; omega
        clear hc1 hp h2
        go_wp2
        go_round
        case rel => exact ⟨j + 1, by omega, by go_num, by rw [← HF.out, HC.out]; simp⟩
        case measure => simp [intOf]; omega
      · have hc1 : crc1 x = x / 2 ^^^ 40961 := by unfold crc1; rw [if_pos h2]
        have HC := Lib.hid hc1
        have hm : ((x : Int) % 2 == 1) = true := by simp; omega
        clear hc1 h2
        go_wp2
        go_round
        case rel => exact ⟨j + 1, by omega, by go_num, by rw [← HF.out, HC.out]⟩
        case measure => simp [intOf]; omega
    · obtain rfl : j = 8 := by omega
      go_wp2
      go_ret
      exact ⟨rfl, rfl⟩
theorem refNext_any (n m : Int) (h0 : 0 ≤ n) (h1 : n < 65536) (h2 : 0 ≤ m) (h3 : m < 256) (w : World) :
    Calls Try.prog 83 #[.int .u16 n, .int .u8 m] w fun e w' => e = .returned (.int .u16 (nextN n.toNat m.toNat)) ∧ w = w' := by
  obtain ⟨s, rfl⟩ := Int.eq_ofNat_of_zero_le h0
  obtain ⟨c, rfl⟩ := Int.eq_ofNat_of_zero_le h2
  exact refNext_nat s c (by omega) (by omega) w

theorem refSum_any (B : Nat) (a : Option Addr) (n c : Nat) (l : List UInt8) (w : World) (hL : Sl b8 w B a n c l) :
    Calls Try.prog 79 #[.slice a n c] w fun e w' => e = .returned (.int .u16 (sumN l)) ∧ w = w' := by
  have hn : n ≤ 9223372036854775807 := by have h1 := hL.nle; have h2 := hL.cle; unfold maxLen at h2; omega
  go_enter Try.func79, Try.ntmps79
  go_wp2
  go_loop [3, 4] (fun s i => ∃ k : Nat, k ≤ n ∧ i = .int .i64 k ∧ s = .int .u16 (sumN (l.take k))) (fun _ i => n - (intOf i).toNat)
  case atStart => exact ⟨0, by omega, rfl, rfl⟩
  case round =>
    obtain ⟨k, hk, rfl, rfl⟩ := hrel
    have hs := sumN_lt (l.take k)
    by_cases hlt : k < n
    · obtain ⟨b, off, x, rfl, hbk, hx, hcell⟩ := hL.at_ hlt
      have HS := Lib.hid (sumFrom_take 65535 l hx)
      have hx8 := x.toNat_lt
      generalize hS : sumN (l.take k) = S at *
      have HS2 := Lib.hid hS
      clear hS hx hL
      have hb : decide ((k : Int) < (n : Int)) = true := by simp; omega
      go_wp2_with (go_at_call 83; refine (refNext_any _ _ (by omega) (by omega) (by omega) (by omega) _).mono ?_; rintro e w2 ⟨rfl, rfl⟩)
      go_round
      case rel => exact ⟨k + 1, by omega, by go_num, by rw [sumN, HS.out, ← HS2.out]; rfl⟩
      case measure => simp [intOf]; omega
    · obtain rfl : k = n := by omega
      have hb : decide ((k : Int) < (k : Int)) = false := by simp
      go_wp2
      go_ret
      rw [List.take_of_length_le (by rw [hL.len]; exact Nat.le_refl _)]
      exact ⟨rfl, rfl⟩

theorem halves_any (n : Int) (h0 : 0 ≤ n) (h : n < 65536) (w : World) :
    Calls Try.prog 77 #[.int .u16 n] w fun e w' => e = .returned (.tuple #[.int .u8 (n % 256), .int .u8 (n / 256)]) ∧ w = w' := by
  go_enter Try.func77, Try.ntmps77
  go_wp2
  go_ret2
  exact ⟨rfl, rfl⟩

theorem Same_any (A B : Nat) (a b : Option Addr) (n c m d : Nat) (l k : List UInt8) (w : World) (hA : Sl b8 w A a n c l) (hB : Sl b8 w B b m d k) :
    Calls Try.prog 14 #[.slice a n c, .slice b m d] w fun e w' => e = .returned (.bool (decide (l = k))) ∧ w = w' := by
  have t1 := hA.text (P := Try.prog) Try.underlying27 Try.underlying5 Try.underlying9
  have t2 := hB.text (P := Try.prog) Try.underlying27 Try.underlying5 Try.underlying9
  go_enter Try.func14, Try.ntmps14
  go_wp2
  go_ret
  have h : ((str l).toList == (str k).toList) = decide (l = k) := by
    rw [Bool.eq_iff_iff]
    simp [str]
  exact ⟨by rw [← h]; rfl, rfl⟩
end Go.Proofs.Ytenfcpdoingdeaa.CrcW
/- What is put behind bytes, and what is cut. -/
open Go.RowKit
namespace Go.Proofs.Ytenfcpdoingdeaa.CrcW
open CrcM Mem

/-- The two bytes of a sum. -/
def tail2 (s : Nat) : List UInt8 := [UInt8.ofNat (s % 256), UInt8.ofNat (s / 256)]
def putN (l : List UInt8) : List UInt8 := l ++ tail2 (sumN l)

theorem info8 : (Try.prog.info? 5).map (fun i => (i.zero, i.size, i.bytes)) = some (some (.int .u8 0), 1, 1) := by kernel_rfl

theorem b8_one (x : UInt8) : (b8 x).oneCell' = true := rfl

set_option maxHeartbeats 400000 in
set_option maxRecDepth 100000 in
theorem Put_own (a : Option Addr) (n c : Nat) (l : List UInt8) (w : World) (hl : Sl b8 w w.heap.size a n c l) (hn : n ≤ 1000000) :
    Calls Try.prog 66 #[.slice a n c] w fun e w' => ∃ v, e = .returned v ∧ w'.ownsRow w.heap.size 5 1 v (n + 2) ((putN l).map b8) ∧ Below w.heap.size w w' := by
  obtain ⟨i0, hi, hz0, hz1, hz2⟩ := info_parts info8
  have hsz : (Try.prog.info? 5).map (·.size) = some 1 := by rw [hi]; simp [hz1]
  go_enter Try.func66, Try.ntmps66
  go_wp2_with (first | (at_make; refine wpList_make_row rfl (.tmp 7) (.tmp 10) 27 rfl 5 i0 (.int .u8 0) 1 Try.underlying27 hi hz0 hz1 hz2 rfl .i64 .i64 _ _ n (n + 2) rfl rfl rfl (by simp) (by omega) (by omega) (by omega) ?_; intro w1 hr1 hb1 hs1) | (refine wpList_copy_head (f := b8) b8_one rfl (.tmp 12) (.tmp 13) 27 27 rfl 5 Try.underlying27 hsz w.heap.size n (n + 2) rfl a n c rfl (hl.below hb1 (Nat.le_refl _)) (Nat.le_refl _) hr1.out (by omega) ?_; intro w2 hr2 hb2))
  have hL2 := ((hl.below hb1 (Nat.le_refl _)).below hb2 (Nat.le_refl _)).more (B' := w2.heap.size) (by have h1 := hb1.size; have h2 := hb2.size; omega)
  refine (Sum_any a n c l w2 hL2).mono ?_
  rintro e w3 ⟨rfl, hb3⟩
  have hs := sumN_lt l
  have hrow := (hb3.block w.heap.size (by have h2 := hb2.size; omega)).trans hr2.out
  have hown : w3.ownsRow w.heap.size 5 1 (.slice (some ⟨w.heap.size, 0, none⟩) n (n + 2)) n (l.map b8) := by
    have hlen := hl.len
    have h1 := own_of_row hrow (n := n) (by simp; omega) (by simp; unfold maxLen; omega) (base := w.heap.size) (Nat.le_refl _)
    have h2 : ((l.take n).map b8 ++ List.replicate (n + 2 - n) (Value.int .u8 0)).length = n + 2 := by simp; omega
    rw [h2, List.take_left' (by simp; omega), List.take_of_length_le (by omega)] at h1
    exact h1
  have hB := Lib.hid ((hb1.trans (hb2.mono (Nat.le_refl _))).trans (hb3.mono (by have h1 := hb1.size; have h2 := hb2.size; omega)))
  have hz3 : w.heap.size < w3.heap.size := by have h2 := hb2.size; have h3 := hb3.size; omega
  have hP := Lib.hid (show putN l = l ++ tail2 (sumN l) from rfl)
  clear hr1 hr2 hb1 hb2 hb3 hs1 hL2 hrow
  generalize sumN l = s at *
  go_wp2_with (first | (go_at_call 77; refine (halves_any _ (by omega) (by omega) _).mono ?_; rintro e w4 ⟨rfl, rfl⟩) | (at_builtin; refine wpList_append_fits _ rfl (.tmp 21) (.tmp 24) 27 rfl w.heap.size 5 i0 1 Try.underlying27 hi hz1 w.heap.size n (n + 2) (l.map b8) rfl (hown.alloc _) ⟨w3.heap.size, 0, none⟩ 2 2 [.int .u8 ((s : Int) % 256), .int .u8 ((s : Int) / 256)] rfl rfl (new_cells _ _ _) (by simp [Value.oneCell']) (Nat.le_refl _) ?_; intro w5 hown5 hgrow5))
  have hB5 : Below w.heap.size w w5 := (hB.out.alloc (by omega) _).grown hgrow5 (by simp; omega) (by rintro k hk; injection hk with hk; omega)
  have hp : l.map b8 ++ [.int .u8 ((s : Int) % 256), .int .u8 ((s : Int) / 256)] = (putN l).map b8 := by
    rw [hP.out, List.map_append]
    congr 1
    simp [tail2]
    omega
  rw [hp] at hown5
  go_ret
  exact ⟨_, rfl, hown5, hB5⟩
theorem Put_any (a : Option Addr) (n c : Nat) (l : List UInt8) (w : World) (hl : Sl b8 w w.heap.size a n c l) (hn : n ≤ 1000000) :
    Calls Try.prog 66 #[.slice a n c] w (Makes b8 (putN l) w) :=
  (Put_own a n c l w hl hn).mono fun _ _ ⟨_, he, ho, hb⟩ => by subst he; exact Makes.of_own ho hb

set_option maxHeartbeats 400000 in
set_option maxRecDepth 100000 in
theorem refPut_any (a : Option Addr) (n c : Nat) (l : List UInt8) (w : World) (hl : Sl b8 w w.heap.size a n c l) (hn : n ≤ 1000000) :
    Calls Try.prog 67 #[.slice a n c] w (Makes b8 (putN l) w) := by
  obtain ⟨i0, hi, hz0, hz1, hz2⟩ := info_parts info8
  have hm : n + 2 ≤ maxLen := by unfold maxLen; omega
  go_enter Try.func67, Try.ntmps67
  go_wp2_with (at_builtin; refine wpList_append_sl (f := b8) b8_one rfl (.tmp 5) (.tmp 6) 27 rfl w.heap.size 5 i0 (.int .u8 0) 1 Try.underlying27 hi hz0 hz1 hz2 rfl (.slice none 0 0) 0 [] rfl (World.ownsRow_nil _ _ _ _) a n c rfl hl (by omega) (by omega) (Nat.le_refl _) ?_; intro v1 w1 hown1 hgrow1)
  have hb1 := (Below.refl w.heap.size w).grown hgrow1 (Nat.le_refl _) (by simp [Value.ownBlock])
  refine (refSum_any w.heap.size a n c l w1 (hl.below hb1 (Nat.le_refl _))).mono ?_
  rintro e w2 ⟨rfl, rfl⟩
  have hs := sumN_lt l
  have hP := Lib.hid (show putN l = l ++ tail2 (sumN l) from rfl)
  have hB := Lib.hid hb1
  have hlt := hown1.lt
  have hz := hb1.size
  clear hb1 hgrow1 hl
  generalize sumN l = s at *
  simp only [Nat.zero_add, List.nil_append] at hown1
  go_wp2_with (first | (at_builtin; refine wpList_append_new rfl (.tmp 10) (.tmp 14) 27 rfl w.heap.size 5 i0 (.int .u8 0) 1 Try.underlying27 hi hz0 hz1 hz2 rfl v1 n (l.map b8) rfl (hown1.alloc _) ⟨w1.heap.size, 0, none⟩ 1 1 [.int .u8 ((s : Int) % 256)] rfl rfl (new_cells _ _ _) (by simp [Value.oneCell']) (by omega) (by omega) (by simp; omega) ?_; intro v2 w2 hown2 hgrow2) | (at_builtin; refine wpList_append_new rfl (.tmp 16) (.tmp 20) 27 rfl w.heap.size 5 i0 (.int .u8 0) 1 Try.underlying27 hi hz0 hz1 hz2 rfl v2 (n + 1) _ rfl (hown2.alloc _) ⟨w2.heap.size, 0, none⟩ 1 1 [.int .u8 ((s : Int) / 256)] rfl rfl (new_cells _ _ _) (by simp [Value.oneCell']) (by omega) (by omega) (by have := hgrow2.size; simp at this ⊢; omega) ?_; intro v3 w3 hown3 hgrow3))
  have hb2 := ((hB.out.alloc hz (.cells #[.int .u8 ((s : Int) % 256)] 5)).grown hgrow2 (by simp; omega) (fun k hk => (hlt k hk).1))
  have hlt2 := hown2.lt
  have hb3 := ((hb2.alloc (by have := hgrow2.size; simp at this; omega) (.cells #[.int .u8 ((s : Int) / 256)] 5)).grown hgrow3 (by have := hgrow2.size; simp at this ⊢; omega) (fun k hk => (hlt2 k hk).1))
  have hp : l.map b8 ++ [.int .u8 ((s : Int) % 256)] ++ [.int .u8 ((s : Int) / 256)] = (putN l).map b8 := by
    rw [hP.out, List.map_append, List.append_assoc]
    congr 1
    simp [tail2]
    omega
  rw [hp] at hown3
  go_ret
  exact Makes.of_own hown3 hb3
end Go.Proofs.Ytenfcpdoingdeaa.CrcW
/- What is cut. -/
open Go.RowKit
namespace Go.Proofs.Ytenfcpdoingdeaa.CrcW
open CrcM Mem

/-- The error's number, and the bytes ahead. -/
def cutN (l : List UInt8) : Nat × List UInt8 :=
  if l.length < 2 then (10, [])
  else if l.drop (l.length - 2) = tail2 (sumN (l.take (l.length - 2))) then (0, l.take (l.length - 2))
  else (11, [])
def CutGives (r : Nat × List UInt8) (w : World) (e : Ending) (w' : World) : Prop :=
  ∃ a c, e = .returned (.tuple #[.slice a r.2.length c, .int .i64 (r.1 : Int)]) ∧ Sl b8 w' w'.heap.size a r.2.length c r.2 ∧ Below w.heap.size w w'
/-- The same, and what is cut is in memory of its own. -/
def CutOwn (r : Nat × List UInt8) (w : World) (e : Ending) (w' : World) : Prop :=
  ∃ a c, e = .returned (.tuple #[.slice a r.2.length c, .int .i64 (r.1 : Int)]) ∧ Sl b8 w' w'.heap.size a r.2.length c r.2 ∧ Below w.heap.size w w' ∧ ∀ x : Addr, a = some x → w.heap.size ≤ x.block
theorem CutOwn.none_ (k : Nat) {w w' : World} (h : Below w.heap.size w w') : CutOwn (k, []) w (.returned (.tuple #[.slice none 0 0, .int .i64 (k : Int)])) w' :=
  ⟨none, 0, rfl, Sl.none_, h, fun _ h => by cases h⟩
theorem CutOwn.gives {r : Nat × List UInt8} {w w' : World} {e : Ending} (h : CutOwn r w e w') : CutGives r w e w' := by
  obtain ⟨a, c, h1, h2, h3, _⟩ := h
  exact ⟨a, c, h1, h2, h3⟩
theorem CutGives.none_ (k : Nat) {w w' : World} (h : Below w.heap.size w w') : CutGives (k, []) w (.returned (.tuple #[.slice none 0 0, .int .i64 (k : Int)])) w' :=
  ⟨none, 0, rfl, Sl.none_, h⟩

theorem tail2_eq (x y : UInt8) (s : Nat) (hs : s < 65536) : [x, y] = tail2 s ↔ x.toNat = s % 256 ∧ y.toNat = s / 256 := by
  unfold tail2
  simp only [List.cons.injEq, and_true]
  constructor
  · rintro ⟨rfl, rfl⟩
    simp
    omega
  · rintro ⟨h1, h2⟩
    constructor
    · rw [← h1]; simp
    · rw [← h2]; simp
theorem cutN_two {l : List UInt8} {k : Nat} (hl : l.length = k + 2) {x y : UInt8} (hx : l[k]? = some x) (hy : l[k + 1]? = some y) :
    cutN l = if x.toNat = sumN (l.take k) % 256 ∧ y.toNat = sumN (l.take k) / 256 then (0, l.take k) else (11, []) := by
  unfold cutN
  rw [if_neg (by omega), hl, show k + 2 - 2 = k by omega]
  have h : l.drop k = [x, y] := by
    apply List.ext_getElem?
    intro i
    rw [List.getElem?_drop]
    match i with
    | 0 => rw [Nat.add_zero, hx]; rfl
    | 1 => rw [hy]; rfl
    | i + 2 => rw [List.getElem?_eq_none (by omega)]; rfl
  rw [h]
  by_cases h2 : x.toNat = sumN (l.take k) % 256 ∧ y.toNat = sumN (l.take k) / 256
  · rw [if_pos h2, if_pos ((tail2_eq x y _ (sumN_lt _)).2 h2)]
  · rw [if_neg h2, if_neg (fun h => h2 ((tail2_eq x y _ (sumN_lt _)).1 h))]

theorem Cut_short (a : Option Addr) (n c : Nat) (l : List UInt8) (w : World) (hl : Sl b8 w w.heap.size a n c l) (hn : n < 2) :
    Calls Try.prog 68 #[.slice a n c] w (CutOwn (cutN l) w) := by
  have hc : cutN l = (10, []) := by unfold cutN; rw [if_pos (by rw [hl.len]; exact hn)]
  rw [hc]
  go_enter Try.func68, Try.ntmps68
  go_wp2
  go_ret2
  exact CutOwn.none_ 10 (Below.refl _ _)

set_option maxHeartbeats 1000000 in
set_option maxRecDepth 100000 in
theorem Cut_long (a : Option Addr) (k c : Nat) (l : List UInt8) (w : World) (hl : Sl b8 w w.heap.size a (k + 2) c l) (hn : k ≤ 1000000) :
    Calls Try.prog 68 #[.slice a (k + 2) c] w (CutOwn (cutN l) w) := by
  obtain ⟨i0, hi, hz0, hz1, hz2⟩ := info_parts info8
  have hsz : (Try.prog.info? 5).map (·.size) = some 1 := by rw [hi]; simp [hz1]
  have hkc : k + 2 ≤ c := hl.nle
  have hcm : c ≤ 9223372036854775807 := by have h1 := hl.cle; unfold maxLen at h1; omega
  obtain ⟨b, off, x, rfl, hbl, hx, hcx⟩ := hl.at_ (k := k) (by omega)
  obtain ⟨b', off', y, he, _, hy, hcy⟩ := hl.at_ (k := k + 1) (by omega)
  injection he with he
  injection he with he1 he2
  subst he1 he2
  have hT := hl.take_ (k := k) (by omega)
  have hC := Lib.hid (cutN_two hl.len hx hy)
  clear hx hy
  go_enter Try.func68, Try.ntmps68
  go_wp2_with fail
  refine (Sum_any _ k c _ w hT).mono ?_
  rintro e w1 ⟨rfl, hb1⟩
  have hs := sumN_lt (l.take k)
  have hx1 : w1.cell? ⟨b, off + k, none⟩ = some (b8 x) := (hb1.cell (p := ⟨b, off + k, none⟩) hbl).trans hcx
  have hy1 : w1.cell? ⟨b, off + (k + 1), none⟩ = some (b8 y) := (hb1.cell (p := ⟨b, off + (k + 1), none⟩) hbl).trans hcy
  have hL1 := hl.below hb1 (Nat.le_refl _)
  have hz := hb1.size
  have hB := Lib.hid hb1
  clear hcx hcy hl hT hb1 hbl
  generalize sumN (l.take k) = s at *
  have hh := halves_any (s : Int) (by omega) (by omega)
  by_cases h1 : x.toNat = s % 256
  · by_cases h2 : y.toNat = s / 256
    · have hR := Lib.hid (hC.out.trans (if_pos ⟨h1, h2⟩))
      have e1 : ((x.toNat : Int) == (s : Int) % 256) = true := by simp; omega
      have e2 : ((y.toNat : Int) == (s : Int) / 256) = true := by simp; omega
      have n1 : ((x.toNat : Int) != (s : Int) % 256) = false := by simp; omega
      have n2 : ((y.toNat : Int) != (s : Int) / 256) = false := by simp; omega
      clear h1 h2 hC
      have Hh := Lib.hid hh
      clear hh
      go_wp2_with (first | (go_at_call 77; refine (Hh.out _).mono ?_; rintro e w4 ⟨rfl, rfl⟩) | (at_make; refine wpList_make_row rfl (.tmp 36) (.tmp 36) 27 rfl 5 i0 (.int .u8 0) 1 Try.underlying27 hi hz0 hz1 hz2 rfl .i64 .i64 _ _ k k rfl rfl rfl rfl (by omega) (by omega) (by omega) ?_; intro w2 hr2 hb2 hs2) | (refine wpList_copy_head (f := b8) b8_one rfl (.tmp 38) (.tmp 39) 27 27 rfl 5 Try.underlying27 hsz w1.heap.size k k rfl (some ⟨b, off, none⟩) (k + 2) c rfl (hL1.below hb2 hz) (by omega) hr2.out (Nat.le_refl _) ?_; intro w3 hr3 hb3))
      have hB3 := (hB.out.trans (hb2.mono hz)).trans (hb3.mono hz)
      have hrow := hr3.out
      rw [Nat.sub_self, List.replicate_zero, List.append_nil] at hrow
      have hlen : ((l.take k).map b8).length = k := by rw [List.length_map, List.length_take, hL1.len]; omega
      have hown := own_of_row hrow (n := k) (by omega) (by rw [hlen]; unfold maxLen; omega) (base := 0) (Nat.zero_le _)
      rw [hlen, List.take_of_length_le (by omega)] at hown
      obtain ⟨a', c', hv, hsl⟩ := Sl.of_own hown
      go_ret2
      rw [hR.out]
      injection hv with hv1 hv2 hv3
      subst hv1 hv3
      have hlk : (l.take k).length = k := hsl.len
      exact ⟨_, _, by simp only [hlk]; rfl, by simp only [hlk]; exact hsl, hB3, fun x hx => by injection hx with hx; subst hx; exact hz⟩
    · have hR := Lib.hid (hC.out.trans (if_neg (fun h => h2 h.2)))
      have e1 : ((x.toNat : Int) == (s : Int) % 256) = true := by simp; omega
      have e2 : ((y.toNat : Int) == (s : Int) / 256) = false := by simp; omega
      have n1 : ((x.toNat : Int) != (s : Int) % 256) = false := by simp; omega
      have n2 : ((y.toNat : Int) != (s : Int) / 256) = true := by simp; omega
      clear h1 h2 hC
      have Hh := Lib.hid hh
      clear hh
      go_wp2_with (go_at_call 77; refine (Hh.out _).mono ?_; rintro e w4 ⟨rfl, rfl⟩)
      go_ret2
      rw [hR.out]
      exact CutOwn.none_ 11 hB.out
  · have hR := Lib.hid (hC.out.trans (if_neg (fun h => h1 h.1)))
    have e1 : ((x.toNat : Int) == (s : Int) % 256) = false := by simp; omega
    have n1 : ((x.toNat : Int) != (s : Int) % 256) = true := by simp; omega
    clear h1 hC
    have Hh := Lib.hid hh
    clear hh
    go_wp2_with (go_at_call 77; refine (Hh.out _).mono ?_; rintro e w4 ⟨rfl, rfl⟩)
    go_ret2
    rw [hR.out]
    exact CutOwn.none_ 11 hB.out
theorem Cut_own (a : Option Addr) (n c : Nat) (l : List UInt8) (w : World) (hl : Sl b8 w w.heap.size a n c l) (hn : n ≤ 1000000) :
    Calls Try.prog 68 #[.slice a n c] w (CutOwn (cutN l) w) := by
  by_cases h : n < 2
  · exact Cut_short a n c l w hl h
  · obtain ⟨k, rfl⟩ : ∃ k, n = k + 2 := ⟨n - 2, by omega⟩
    exact Cut_long a k c l w hl (by omega)
theorem Cut_any (a : Option Addr) (n c : Nat) (l : List UInt8) (w : World) (hl : Sl b8 w w.heap.size a n c l) (hn : n ≤ 1000000) :
    Calls Try.prog 68 #[.slice a n c] w (CutGives (cutN l) w) := (Cut_own a n c l w hl hn).mono fun _ _ h => h.gives
end Go.Proofs.Ytenfcpdoingdeaa.CrcW
/- What is cut, by the document's own answer. -/
open Go.RowKit
namespace Go.Proofs.Ytenfcpdoingdeaa.CrcW
open CrcM Mem

theorem refCut_short (a : Option Addr) (n c : Nat) (l : List UInt8) (w : World) (hl : Sl b8 w w.heap.size a n c l) (hn : n < 2) :
    Calls Try.prog 69 #[.slice a n c] w (CutGives (cutN l) w) := by
  have hc : cutN l = (10, []) := by unfold cutN; rw [if_pos (by rw [hl.len]; exact hn)]
  rw [hc]
  go_enter Try.func69, Try.ntmps69
  go_wp2
  go_ret2
  exact CutGives.none_ 10 (Below.refl _ _)

set_option maxHeartbeats 1000000 in
set_option maxRecDepth 100000 in
theorem refCut_long (a : Option Addr) (k c : Nat) (l : List UInt8) (w : World) (hl : Sl b8 w w.heap.size a (k + 2) c l) (hn : k ≤ 1000000) :
    Calls Try.prog 69 #[.slice a (k + 2) c] w (CutGives (cutN l) w) := by
  obtain ⟨i0, hi, hz0, hz1, hz2⟩ := info_parts info8
  have hkc : k + 2 ≤ c := hl.nle
  have hcm : c ≤ 9223372036854775807 := by have h1 := hl.cle; unfold maxLen at h1; omega
  obtain ⟨b, off, x, rfl, hbl, hx, hcx⟩ := hl.at_ (k := k) (by omega)
  obtain ⟨b', off', y, he, _, hy, hcy⟩ := hl.at_ (k := k + 1) (by omega)
  injection he with he
  injection he with he1 he2
  subst he1 he2
  have hT := hl.take_ (k := k) (by omega)
  have hC := Lib.hid (cutN_two hl.len hx hy)
  clear hx hy
  go_enter Try.func69, Try.ntmps69
  go_wp2_with fail
  refine (refSum_any w.heap.size _ k c _ w hT).mono ?_
  rintro e w1 ⟨rfl, rfl⟩
  have hs := sumN_lt (l.take k)
  have hx8 := x.toNat_lt
  have hy8 := y.toNat_lt
  have HL := Lib.hid hl
  have HT := Lib.hid hT
  have hlk : (l.take k).length = k := hT.len
  have Hlk := Lib.hid hlk
  clear hl hT hlk
  generalize sumN (l.take k) = s at *
  by_cases h0 : x.toNat + 256 * y.toNat = s
  · have hR := Lib.hid (hC.out.trans (if_pos (by omega)))
    have n1 : (((x.toNat : Int) + 256 * (y.toNat : Int)) != (s : Int)) = false := by simp; omega
    have n2 : (((x.toNat : Int) + 256 * (y.toNat : Int)) == (s : Int)) = true := by simp; omega
    clear h0 hC
    go_wp2_with fail
    go_quiet (fail)
    go_wp2_with (at_builtin; refine wpList_append_sl (f := b8) b8_one rfl (.tmp 33) (.tmp 36) 27 rfl w.heap.size 5 i0 (.int .u8 0) 1 Try.underlying27 hi hz0 hz1 hz2 rfl (.slice none 0 0) 0 [] rfl (World.ownsRow_nil _ _ _ _) (some ⟨b, off, none⟩) k c rfl (HT.out.drawn _) (by unfold maxLen; omega) (by omega) (Nat.le_refl _) ?_; intro v1 w1 hown1 hgrow1)
    have hb1 := below_ahead ((Below.refl w.heap.size _).grown hgrow1 (Nat.le_refl _) (by simp [Value.ownBlock]))
    simp only [Nat.zero_add, List.nil_append] at hown1
    obtain ⟨a', c', hv, hsl⟩ := Sl.of_own hown1
    subst hv
    go_ret2
    rw [hR.out]
    exact ⟨a', c', by simp only [Hlk.out]; rfl, by simp only [Hlk.out]; exact hsl, hb1⟩
  · have hR := Lib.hid (hC.out.trans (if_neg (by omega)))
    have n1 : (((x.toNat : Int) + 256 * (y.toNat : Int)) != (s : Int)) = true := by simp; omega
    have n2 : (((x.toNat : Int) + 256 * (y.toNat : Int)) == (s : Int)) = false := by simp; omega
    clear h0 hC
    go_wp2_with fail
    go_quiet (fail)
    go_wp2
    go_ret2
    rw [hR.out]
    exact CutGives.none_ 11 (below_drawn (Below.refl _ _) _)
theorem refCut_any (a : Option Addr) (n c : Nat) (l : List UInt8) (w : World) (hl : Sl b8 w w.heap.size a n c l) (hn : n ≤ 1000000) :
    Calls Try.prog 69 #[.slice a n c] w (CutGives (cutN l) w) := by
  by_cases h : n < 2
  · exact refCut_short a n c l w hl h
  · obtain ⟨k, rfl⟩ : ∃ k, n = k + 2 := ⟨n - 2, by omega⟩
    exact refCut_long a k c l w hl (by omega)
end Go.Proofs.Ytenfcpdoingdeaa.CrcW
