/- Plain facts on the check sum of 16 bits, over natural numbers; no program is named here. -/
namespace Go.Proofs.Ytiecncnmmecjcaa.CrcM

/-- One bit shifted out. -/
def crc1 (s : Nat) : Nat := (s / 2) ^^^ (if s % 2 = 1 then 40961 else 0)
def crc4 (s : Nat) : Nat := crc1 (crc1 (crc1 (crc1 s)))
/-- One byte more. -/
def nextN (s c : Nat) : Nat := crc4 (crc4 (s ^^^ c))
def sumFrom (s : Nat) (l : List UInt8) : Nat := l.foldl (fun s c => nextN s c.toNat) s
def sumN (l : List UInt8) : Nat := sumFrom 65535 l

theorem crc1_zero : crc1 0 = 0 := by decide
theorem crc1_even (q : Nat) : crc1 (2 * q) = q := by
  unfold crc1
  rw [if_neg (by omega)]
  simp
theorem crc1_xor (a b : Nat) : crc1 (a ^^^ b) = crc1 a ^^^ crc1 b := by
  unfold crc1
  have h2 : (a ^^^ b) / 2 = a / 2 ^^^ b / 2 := Nat.xor_div_two
  have hm := @Nat.xor_mod_two_eq_one a b
  rw [h2]
  by_cases ha : a % 2 = 1 <;> by_cases hb : b % 2 = 1
  · rw [if_neg (by rw [hm]; simp [ha, hb]), if_pos ha, if_pos hb, Nat.xor_zero]
    rw [show a / 2 ^^^ 40961 ^^^ (b / 2 ^^^ 40961) = a / 2 ^^^ b / 2 ^^^ (40961 ^^^ 40961) by ac_rfl]
    simp
  · rw [if_pos (by rw [hm]; simp [ha, hb]), if_pos ha, if_neg hb]
    simp; ac_rfl
  · rw [if_pos (by rw [hm]; simp [ha, hb]), if_neg ha, if_pos hb]
    simp; ac_rfl
  · rw [if_neg (by rw [hm]; simp [ha, hb]), if_neg ha, if_neg hb]
    simp
theorem crc1_lt {s : Nat} (h : s < 65536) : crc1 s < 65536 := by
  unfold crc1
  exact Nat.xor_lt_two_pow (n := 16) (by omega) (by split <;> omega)
theorem xor_zero_iff {a b : Nat} (h : a ^^^ b = 0) : a = b := by
  have h1 : a ^^^ b ^^^ b = 0 ^^^ b := by rw [h]
  rwa [Nat.xor_assoc, Nat.xor_self, Nat.xor_zero, Nat.zero_xor] at h1
theorem crc1_eq_zero {s : Nat} (h : s < 65536) (e : crc1 s = 0) : s = 0 := by
  unfold crc1 at e
  have e2 : s / 2 = if s % 2 = 1 then 40961 else 0 := xor_zero_iff e
  by_cases hs : s % 2 = 1
  · rw [if_pos hs] at e2; omega
  · rw [if_neg hs] at e2; omega
theorem xor_lt {a b : Nat} (ha : a < 65536) (hb : b < 65536) : a ^^^ b < 65536 := Nat.xor_lt_two_pow (n := 16) ha hb

theorem crc4_zero : crc4 0 = 0 := by decide
theorem crc4_xor (a b : Nat) : crc4 (a ^^^ b) = crc4 a ^^^ crc4 b := by simp only [crc4, crc1_xor]
theorem crc4_lt {s : Nat} (h : s < 65536) : crc4 s < 65536 := crc1_lt (crc1_lt (crc1_lt (crc1_lt h)))
theorem crc4_eq_zero {s : Nat} (h : s < 65536) (e : crc4 s = 0) : s = 0 :=
  crc1_eq_zero h (crc1_eq_zero (crc1_lt h) (crc1_eq_zero (crc1_lt (crc1_lt h)) (crc1_eq_zero (crc1_lt (crc1_lt (crc1_lt h))) e)))
theorem crc4_16 (q : Nat) : crc4 (16 * q) = q := by
  unfold crc4
  rw [show 16 * q = 2 * (2 * (2 * (2 * q))) by omega, crc1_even, crc1_even, crc1_even, crc1_even]
/-- Four bits at a time, by the table of what becomes of the lower four. -/
theorem crc4_split (s : Nat) : crc4 s = s / 16 ^^^ crc4 (s % 16) := by
  have h : s = (16 * (s / 16)) ^^^ (s % 16) := by
    have h1 := Nat.two_pow_add_eq_or_of_lt (i := 4) (b := s % 16) (by omega) (s / 16)
    have h2 : 16 * (s / 16) + s % 16 = s := by omega
    have h3 : (16 * (s / 16)) &&& (s % 16) = 0 := by
      apply Nat.eq_of_testBit_eq
      intro i
      rw [Nat.testBit_and, Nat.zero_testBit]
      by_cases hi : i < 4
      · have : (16 * (s / 16)).testBit i = false := by
          rw [show 16 * (s / 16) = 2 ^ 4 * (s / 16) from rfl, Nat.testBit_two_pow_mul]
          simp; omega
        rw [this, Bool.false_and]
      · have : (s % 16).testBit i = false := Nat.testBit_lt_two_pow (Nat.lt_of_lt_of_le (show s % 16 < 2 ^ 4 by omega) (Nat.pow_le_pow_right (by omega) (by omega)))
        rw [this, Bool.and_false]
    have h4 : (16 * (s / 16)) ^^^ (s % 16) = (16 * (s / 16)) ||| (s % 16) := by
      apply Nat.eq_of_testBit_eq
      intro i
      have h5 := congrArg (fun n => n.testBit i) h3
      simp only [Nat.testBit_and, Nat.zero_testBit] at h5
      rw [Nat.testBit_xor, Nat.testBit_or]
      revert h5
      cases (16 * (s / 16)).testBit i <;> cases (s % 16).testBit i <;> simp
    rw [h4]
    have h6 : 2 ^ 4 * (s / 16) + s % 16 = 2 ^ 4 * (s / 16) ||| s % 16 := h1
    rw [show (16 * (s / 16)) = 2 ^ 4 * (s / 16) from rfl, ← h6]
    omega
  conv => lhs; rw [h]
  rw [crc4_xor, crc4_16]

theorem nextN_lt {s c : Nat} (hs : s < 65536) (hc : c < 65536) : nextN s c < 65536 := crc4_lt (crc4_lt (xor_lt hs hc))
theorem nextN_xor (s t c d : Nat) : nextN (s ^^^ t) (c ^^^ d) = nextN s c ^^^ nextN t d := by
  unfold nextN
  rw [← crc4_xor, ← crc4_xor]
  congr 2
  ac_rfl
theorem nextN_eq_zero {s c : Nat} (hs : s < 65536) (hc : c < 65536) (e : nextN s c = 0) : s = c := by
  unfold nextN at e
  exact xor_zero_iff (crc4_eq_zero (xor_lt hs hc) (crc4_eq_zero (crc4_lt (xor_lt hs hc)) e))
/-- Two sums, and two bytes, that come to one were one, changed together. -/
theorem nextN_inj {s t c d : Nat} (hs : s < 65536) (ht : t < 65536) (hc : c < 65536) (hd : d < 65536) (e : nextN s c = nextN t d) : s ^^^ t = c ^^^ d := by
  have h : nextN (s ^^^ t) (c ^^^ d) = 0 := by rw [nextN_xor, e, Nat.xor_self]
  exact nextN_eq_zero (xor_lt hs ht) (xor_lt hc hd) h
theorem nextN_inj_left {s t c : Nat} (hs : s < 65536) (ht : t < 65536) (hc : c < 65536) : nextN s c = nextN t c ↔ s = t := by
  refine ⟨fun e => ?_, fun e => by rw [e]⟩
  have h := nextN_inj hs ht hc hc e
  rw [Nat.xor_self] at h
  exact xor_zero_iff h
theorem nextN_inj_right {s c d : Nat} (hs : s < 65536) (hc : c < 65536) (hd : d < 65536) : nextN s c = nextN s d ↔ c = d := by
  refine ⟨fun e => ?_, fun e => by rw [e]⟩
  have h := nextN_inj hs hs hc hd e
  rw [Nat.xor_self] at h
  exact xor_zero_iff h.symm

theorem sumFrom_lt (l : List UInt8) : ∀ {s : Nat}, s < 65536 → sumFrom s l < 65536 := by
  induction l with
  | nil => intro s h; exact h
  | cons c l ih => intro s h; exact ih (nextN_lt h (by have := c.toNat_lt; omega))
theorem sumN_lt (l : List UInt8) : sumN l < 65536 := sumFrom_lt l (by omega)
theorem sumFrom_append (s : Nat) (l m : List UInt8) : sumFrom s (l ++ m) = sumFrom (sumFrom s l) m := List.foldl_append ..
theorem sumFrom_snoc (s : Nat) (l : List UInt8) (c : UInt8) : sumFrom s (l ++ [c]) = nextN (sumFrom s l) c.toNat := by rw [sumFrom_append]; rfl
/-- What a round of a loop over bytes does. -/
theorem sumFrom_take (s : Nat) (l : List UInt8) {k : Nat} {c : UInt8} (h : l[k]? = some c) : sumFrom s (l.take (k + 1)) = nextN (sumFrom s (l.take k)) c.toNat := by
  rw [List.take_add_one, h]
  exact sumFrom_snoc ..
/-- The sum of bytes with their own sum behind them is 0. -/
theorem sumFrom_own {s : Nat} (hs : s < 65536) : sumFrom s [UInt8.ofNat (s % 256), UInt8.ofNat (s / 256)] = 0 := by
  have h1 : (UInt8.ofNat (s % 256)).toNat = s % 256 := by simp
  have h2 : (UInt8.ofNat (s / 256)).toNat = s / 256 := by simp; omega
  show nextN (nextN s (UInt8.ofNat (s % 256)).toNat) (UInt8.ofNat (s / 256)).toNat = 0
  rw [h1, h2]
  have h3 : s ^^^ s % 256 = 256 * (s / 256) := by
    have h4 := Nat.two_pow_add_eq_or_of_lt (i := 8) (b := s % 256) (by omega) (s / 256)
    apply Nat.eq_of_testBit_eq
    intro i
    rw [Nat.testBit_xor, show s % 256 = s % 2 ^ 8 from rfl, Nat.testBit_mod_two_pow, show 256 * (s / 256) = 2 ^ 8 * (s / 2 ^ 8) from rfl, Nat.testBit_two_pow_mul, Nat.testBit_div_two_pow]
    by_cases hi : i < 8
    · simp [hi]; omega
    · rw [show i - 8 + 8 = i by omega]
      simp [hi]; omega
  have h5 : nextN s (s % 256) = s / 256 := by
    unfold nextN
    rw [h3, show 256 * (s / 256) = 16 * (16 * (s / 256)) by omega, crc4_16, crc4_16]
  rw [h5]
  unfold nextN
  rw [Nat.xor_self]
  decide
theorem sumN_own (l : List UInt8) : sumN (l ++ [UInt8.ofNat (sumN l % 256), UInt8.ofNat (sumN l / 256)]) = 0 := by
  unfold sumN
  rw [sumFrom_append]
  exact sumFrom_own (sumFrom_lt l (by omega))

/-- Three rows of bytes, changed bit by bit together. -/
def xor3 : List UInt8 → List UInt8 → List UInt8 → List UInt8
  | a :: l, b :: m, c :: n => (a ^^^ b ^^^ c) :: xor3 l m n
  | _, _, _ => []
theorem sumFrom_xor3 : ∀ (l m n : List UInt8) (s t u : Nat), l.length = m.length → m.length = n.length →
    sumFrom (s ^^^ t ^^^ u) (xor3 l m n) = sumFrom s l ^^^ sumFrom t m ^^^ sumFrom u n
  | [], [], [], _, _, _, _, _ => rfl
  | a :: l, b :: m, c :: n, s, t, u, h1, h2 => by
    show sumFrom (nextN (s ^^^ t ^^^ u) (a ^^^ b ^^^ c).toNat) (xor3 l m n) = sumFrom (nextN s a.toNat) l ^^^ sumFrom (nextN t b.toNat) m ^^^ sumFrom (nextN u c.toNat) n
    rw [← sumFrom_xor3 l m n _ _ _ (by simpa using h1) (by simpa using h2), UInt8.toNat_xor, UInt8.toNat_xor, nextN_xor, nextN_xor]
  | [], [], _ :: _, _, _, _, _, h => by simp at h
  | [], _ :: _, _, _, _, _, h, _ => by simp at h
  | _ :: _, [], _, _, _, _, h, _ => by simp at h
  | _ :: _, _ :: _, [], _, _, _, _, h => by simp at h
theorem sumN_xor3 (l m n : List UInt8) (h1 : l.length = m.length) (h2 : m.length = n.length) : sumN (xor3 l m n) = sumN l ^^^ sumN m ^^^ sumN n := by
  have h := sumFrom_xor3 l m n 65535 65535 65535 h1 h2
  rw [show (65535 : Nat) ^^^ 65535 ^^^ 65535 = 65535 by decide] at h
  exact h
end Go.Proofs.Ytiecncnmmecjcaa.CrcM
