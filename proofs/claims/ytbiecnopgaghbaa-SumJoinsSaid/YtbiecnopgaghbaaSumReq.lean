/- Plain facts on the check sum of 32 bits, over natural numbers; no program is named here. -/
namespace Go.Proofs.Ytbiecnopgaghbaa.SumM

/-- One bit shifted out. -/
def sh (s : Nat) : Nat := (s / 2) ^^^ (if s % 2 = 1 then 3988292384 else 0)
/-- So many bits shifted out. -/
def shs : Nat → Nat → Nat
  | 0, s => s
  | k + 1, s => shs k (sh s)
/-- One byte more. -/
def addN (s c : Nat) : Nat := shs 8 (s ^^^ c)
def rawN (s : Nat) (l : List UInt8) : Nat := l.foldl (fun s c => addN s c.toNat) s
def bytesN (l : List UInt8) : Nat := 4294967295 - rawN 4294967295 l

theorem xor_zero_iff {a b : Nat} (h : a ^^^ b = 0) : a = b := by
  have h1 : a ^^^ b ^^^ b = 0 ^^^ b := by rw [h]
  rwa [Nat.xor_assoc, Nat.xor_self, Nat.xor_zero, Nat.zero_xor] at h1
theorem xor_lt {a b : Nat} (ha : a < 4294967296) (hb : b < 4294967296) : a ^^^ b < 4294967296 := Nat.xor_lt_two_pow (n := 32) ha hb
theorem sh_zero : sh 0 = 0 := by decide
theorem sh_even (q : Nat) : sh (2 * q) = q := by
  unfold sh
  rw [if_neg (by omega)]
  simp
theorem sh_xor (a b : Nat) : sh (a ^^^ b) = sh a ^^^ sh b := by
  unfold sh
  have h2 : (a ^^^ b) / 2 = a / 2 ^^^ b / 2 := Nat.xor_div_two
  have hm := @Nat.xor_mod_two_eq_one a b
  rw [h2]
  by_cases ha : a % 2 = 1 <;> by_cases hb : b % 2 = 1
  · rw [if_neg (by rw [hm]; simp [ha, hb]), if_pos ha, if_pos hb, Nat.xor_zero]
    rw [show a / 2 ^^^ 3988292384 ^^^ (b / 2 ^^^ 3988292384) = a / 2 ^^^ b / 2 ^^^ (3988292384 ^^^ 3988292384) by ac_rfl]
    simp
  · rw [if_pos (by rw [hm]; simp [ha, hb]), if_pos ha, if_neg hb]
    simp; ac_rfl
  · rw [if_pos (by rw [hm]; simp [ha, hb]), if_neg ha, if_pos hb]
    simp; ac_rfl
  · rw [if_neg (by rw [hm]; simp [ha, hb]), if_neg ha, if_neg hb]
    simp
theorem sh_lt {s : Nat} (h : s < 4294967296) : sh s < 4294967296 := by
  unfold sh
  exact Nat.xor_lt_two_pow (n := 32) (by omega) (by split <;> omega)
theorem sh_eq_zero {s : Nat} (h : s < 4294967296) (e : sh s = 0) : s = 0 := by
  unfold sh at e
  have e2 : s / 2 = if s % 2 = 1 then 3988292384 else 0 := xor_zero_iff e
  by_cases hs : s % 2 = 1
  · rw [if_pos hs] at e2; omega
  · rw [if_neg hs] at e2; omega

theorem shs_add (a b s : Nat) : shs (a + b) s = shs b (shs a s) := by
  induction a generalizing s with
  | zero => rw [Nat.zero_add]; rfl
  | succ a ih => rw [show a + 1 + b = (a + b) + 1 by omega]; exact ih _
theorem shs_zero (k : Nat) : shs k 0 = 0 := by
  induction k with
  | zero => rfl
  | succ k ih => show shs k (sh 0) = 0; rw [sh_zero, ih]
theorem shs_xor (k a b : Nat) : shs k (a ^^^ b) = shs k a ^^^ shs k b := by
  induction k generalizing a b with
  | zero => rfl
  | succ k ih => show shs k (sh (a ^^^ b)) = _; rw [sh_xor, ih]; rfl
theorem shs_shl (k q : Nat) : shs k (q <<< k) = q := by
  induction k generalizing q with
  | zero => rfl
  | succ k ih =>
    show shs k (sh (q <<< (k + 1))) = q
    rw [show q <<< (k + 1) = 2 * (q <<< k) by rw [Nat.shiftLeft_succ], sh_even, ih]
theorem shs_lt {s : Nat} (k : Nat) (h : s < 4294967296) : shs k s < 4294967296 := by
  induction k generalizing s with
  | zero => exact h
  | succ k ih => exact ih (sh_lt h)
theorem shs_eq_zero {k s : Nat} (h : s < 4294967296) (e : shs k s = 0) : s = 0 := by
  induction k generalizing s with
  | zero => exact e
  | succ k ih => exact sh_eq_zero h (ih (sh_lt h) e)
theorem shs_inj {k s t : Nat} (hs : s < 4294967296) (ht : t < 4294967296) : shs k s = shs k t ↔ s = t := by
  refine ⟨fun e => ?_, fun e => by rw [e]⟩
  exact xor_zero_iff (shs_eq_zero (k := k) (xor_lt hs ht) (by rw [shs_xor, e, Nat.xor_self]))
theorem shs_succ (k s : Nat) : shs (k + 1) s = sh (shs k s) := by rw [shs_add]; rfl
theorem addN_lt {s c : Nat} (hs : s < 4294967296) (hc : c < 256) : addN s c < 4294967296 := shs_lt 8 (xor_lt hs (by omega))
theorem rawN_lt (l : List UInt8) : ∀ {s : Nat}, s < 4294967296 → rawN s l < 4294967296 := by
  induction l with
  | nil => intro s h; exact h
  | cons c l ih => intro s h; exact ih (addN_lt h c.toNat_lt)
theorem rawN_append (s : Nat) (l m : List UInt8) : rawN s (l ++ m) = rawN (rawN s l) m := List.foldl_append ..
/-- What a round of a loop over bytes does. -/
theorem rawN_take (s : Nat) (l : List UInt8) {k : Nat} {c : UInt8} (h : l[k]? = some c) : rawN s (l.take (k + 1)) = addN (rawN s (l.take k)) c.toNat := by
  rw [List.take_add_one, h, rawN_append]
  rfl
theorem bytesN_lt (l : List UInt8) : bytesN l < 4294967296 := by unfold bytesN; omega
theorem not_xor {s : Nat} (h : s < 4294967296) : s ^^^ 4294967295 = 4294967295 - s := by
  apply Nat.eq_of_testBit_eq
  intro i
  rw [Nat.testBit_xor, show (4294967295 : Nat) - s = 2 ^ 32 - (s + 1) by omega, Nat.testBit_two_pow_sub_succ (by omega), show (4294967295 : Nat) = 2 ^ 32 - 1 by decide, Nat.testBit_two_pow_sub_one]
  by_cases hi : i < 32
  · simp [hi]
  · rw [Nat.testBit_lt_two_pow (Nat.lt_of_lt_of_le h (Nat.pow_le_pow_right (n := 2) (by omega) (show 32 ≤ i by omega)))]
    simp [hi]
theorem bytesN_xor (l : List UInt8) : bytesN l = rawN 4294967295 l ^^^ 4294967295 := (not_xor (rawN_lt l (by omega))).symm

/-- Bytes as one number, the first the lowest. -/
def valN : List UInt8 → Nat
  | [] => 0
  | c :: l => c.toNat ^^^ (valN l <<< 8)
theorem rawN_val (l : List UInt8) : ∀ s, rawN s l = shs (8 * l.length) (s ^^^ valN l) := by
  induction l with
  | nil => intro s; simp [rawN, valN, shs]
  | cons c l ih =>
    intro s
    show rawN (addN s c.toNat) l = _
    rw [ih, show 8 * (c :: l).length = 8 + 8 * l.length by rw [List.length_cons]; omega, shs_add]
    congr 1
    show _ = shs 8 (s ^^^ (c.toNat ^^^ valN l <<< 8))
    rw [← Nat.xor_assoc, shs_xor 8 (s ^^^ c.toNat), shs_shl]
    rfl

/-- What bytes behind others come to. -/
theorem rawN_join (s : Nat) (a b : List UInt8) : rawN s (a ++ b) = shs (8 * b.length) (rawN s a) ^^^ rawN 0 b := by
  rw [rawN_append, rawN_val b, rawN_val b 0, Nat.zero_xor, shs_xor]
/-- The four bytes of a number, the lowest first. -/
def four (x : Nat) : List UInt8 := [UInt8.ofNat x, UInt8.ofNat (x / 256), UInt8.ofNat (x / 65536), UInt8.ofNat (x / 16777216)]
theorem add_xor (a b k : Nat) (h : a < 2 ^ k) : a ^^^ (b <<< k) = a + b * 2 ^ k := by
  have h1 := Nat.two_pow_add_eq_or_of_lt h b
  rw [Nat.add_comm, Nat.mul_comm, h1]
  apply Nat.eq_of_testBit_eq
  intro i
  rw [Nat.testBit_xor, Nat.testBit_or, Nat.testBit_shiftLeft, Nat.testBit_two_pow_mul]
  by_cases hi : k ≤ i
  · rw [Nat.testBit_lt_two_pow (Nat.lt_of_lt_of_le h (Nat.pow_le_pow_right (n := 2) (by omega) hi))]
    simp
  · simp [hi]
theorem four_val {x : Nat} (h : x < 4294967296) : valN (four x) = x := by
  have e0 : (UInt8.ofNat x).toNat = x % 256 := by simp
  have e1 : (UInt8.ofNat (x / 256)).toNat = x / 256 % 256 := by simp
  have e2 : (UInt8.ofNat (x / 65536)).toNat = x / 65536 % 256 := by simp
  have e3 : (UInt8.ofNat (x / 16777216)).toNat = x / 16777216 % 256 := by simp
  have h8 : ∀ z : Nat, z % 256 < 2 ^ 8 := fun z => by have := Nat.mod_lt z (show 0 < 256 by omega); simpa using this
  show (UInt8.ofNat x).toNat ^^^ ((UInt8.ofNat (x / 256)).toNat ^^^ ((UInt8.ofNat (x / 65536)).toNat ^^^ ((UInt8.ofNat (x / 16777216)).toNat ^^^ (0 <<< 8)) <<< 8) <<< 8) <<< 8 = x
  rw [e0, e1, e2, e3, Nat.zero_shiftLeft, Nat.xor_zero, add_xor _ _ 8 (h8 _), add_xor _ _ 8 (h8 _), add_xor _ _ 8 (h8 _)]
  omega
/-- Bytes with their own check's four bytes behind them. -/
theorem own_check (a : List UInt8) : rawN 4294967295 (a ++ four (bytesN a)) = rawN 4294967295 [0, 0, 0, 0] := by
  have hr := rawN_lt a (s := 4294967295) (by omega)
  have h1 : rawN 4294967295 [0, 0, 0, 0] = shs 32 4294967295 := by rw [rawN_val]; rfl
  rw [rawN_append, rawN_val (four _), four_val (bytesN_lt a), h1, bytesN_xor, ← Nat.xor_assoc, Nat.xor_self, Nat.zero_xor]
  rfl
theorem bytesN_own (a : List UInt8) : bytesN (a ++ four (bytesN a)) = bytesN [0, 0, 0, 0] := by
  unfold bytesN
  have := own_check a
  unfold bytesN at this
  rw [this]

/-- Three rows of bytes, changed bit by bit together. -/
def xor3 : List UInt8 → List UInt8 → List UInt8 → List UInt8
  | a :: l, b :: m, c :: n => (a ^^^ b ^^^ c) :: xor3 l m n
  | _, _, _ => []
theorem addN_xor (s t c d : Nat) : addN (s ^^^ t) (c ^^^ d) = addN s c ^^^ addN t d := by
  unfold addN
  rw [← shs_xor]
  congr 1
  ac_rfl
theorem rawN_xor3 : ∀ (l m n : List UInt8) (s t u : Nat), l.length = m.length → m.length = n.length →
    rawN (s ^^^ t ^^^ u) (xor3 l m n) = rawN s l ^^^ rawN t m ^^^ rawN u n
  | [], [], [], _, _, _, _, _ => rfl
  | a :: l, b :: m, c :: n, s, t, u, h1, h2 => by
    show rawN (addN (s ^^^ t ^^^ u) (a ^^^ b ^^^ c).toNat) (xor3 l m n) = rawN (addN s a.toNat) l ^^^ rawN (addN t b.toNat) m ^^^ rawN (addN u c.toNat) n
    rw [← rawN_xor3 l m n _ _ _ (by simpa using h1) (by simpa using h2), UInt8.toNat_xor, UInt8.toNat_xor, addN_xor, addN_xor]
  | [], [], _ :: _, _, _, _, _, h => by simp at h
  | [], _ :: _, _, _, _, _, h, _ => by simp at h
  | _ :: _, [], _, _, _, _, h, _ => by simp at h
  | _ :: _, _ :: _, [], _, _, _, _, h => by simp at h
theorem bytesN_xor3 (l m n : List UInt8) (h1 : l.length = m.length) (h2 : m.length = n.length) : bytesN (xor3 l m n) = bytesN l ^^^ bytesN m ^^^ bytesN n := by
  have h := rawN_xor3 l m n 4294967295 4294967295 4294967295 h1 h2
  rw [show (4294967295 : Nat) ^^^ 4294967295 ^^^ 4294967295 = 4294967295 by decide] at h
  rw [bytesN_xor, bytesN_xor, bytesN_xor, bytesN_xor, h]
  generalize rawN 4294967295 l = x
  generalize rawN 4294967295 m = y
  generalize rawN 4294967295 n = z
  rw [show x ^^^ 4294967295 ^^^ (y ^^^ 4294967295) ^^^ (z ^^^ 4294967295) = x ^^^ y ^^^ z ^^^ 4294967295 ^^^ (4294967295 ^^^ 4294967295) by ac_rfl, Nat.xor_self, Nat.xor_zero]

/-! ### Bits turned within 32 beside one another -/
/-- One bit turned, if there is such a byte. -/
def flipAt (l : List UInt8) (i : Nat) : List UInt8 := l.modify (i / 8) (· ^^^ UInt8.ofNat (2 ^ (i % 8)))
theorem flipAt_length (l : List UInt8) (i : Nat) : (flipAt l i).length = l.length := by simp [flipAt]
theorem ofNat_pow {i : Nat} (h : i < 8) : (UInt8.ofNat (2 ^ i)).toNat = 2 ^ i := by
  have : 2 ^ i < 2 ^ 8 := Nat.pow_lt_pow_right (by omega) h
  simp; omega
theorem flipAt_val (l : List UInt8) : ∀ i, valN (flipAt l i) = valN l ^^^ (if i < 8 * l.length then 2 ^ i else 0) := by
  induction l with
  | nil => intro i; simp [flipAt, valN]
  | cons c l ih =>
    intro i
    by_cases hi : i < 8
    · rw [if_pos (by rw [List.length_cons]; omega)]
      have h1 : flipAt (c :: l) i = (c ^^^ UInt8.ofNat (2 ^ i)) :: l := by
        unfold flipAt
        rw [show i / 8 = 0 by omega, show i % 8 = i by omega]
        rfl
      rw [h1]
      show (c ^^^ UInt8.ofNat (2 ^ i)).toNat ^^^ valN l <<< 8 = (c.toNat ^^^ valN l <<< 8) ^^^ 2 ^ i
      rw [UInt8.toNat_xor, ofNat_pow hi]
      ac_rfl
    · have h1 : flipAt (c :: l) i = c :: flipAt l (i - 8) := by
        unfold flipAt
        rw [show i / 8 = (i - 8) / 8 + 1 by omega, show i % 8 = (i - 8) % 8 by omega, List.modify_succ_cons]
      rw [h1]
      show c.toNat ^^^ valN (flipAt l (i - 8)) <<< 8 = (c.toNat ^^^ valN l <<< 8) ^^^ _
      rw [ih, Nat.shiftLeft_xor_distrib, Nat.xor_assoc]
      congr 2
      rw [List.length_cons]
      by_cases hl : i < 8 * (l.length + 1)
      · rw [if_pos hl, if_pos (by omega), Nat.shiftLeft_eq, ← Nat.pow_add, show i - 8 + 8 = i by omega]
      · rw [if_neg hl, if_neg (by omega)]
        rfl
/-- The first k bits of a pattern turned, from some place on. -/
def spoilK (l : List UInt8) (at_ p : Nat) : Nat → List UInt8
  | 0 => l
  | k + 1 => if p.testBit k = true ∧ at_ + k < 8 * l.length then flipAt (spoilK l at_ p k) (at_ + k) else spoilK l at_ p k
def patK (l : List UInt8) (at_ p : Nat) : Nat → Nat
  | 0 => 0
  | k + 1 => if p.testBit k = true ∧ at_ + k < 8 * l.length then patK l at_ p k ^^^ 2 ^ k else patK l at_ p k
theorem spoilK_length (l : List UInt8) (at_ p k : Nat) : (spoilK l at_ p k).length = l.length := by
  induction k with
  | zero => rfl
  | succ k ih => unfold spoilK; split <;> simp [flipAt_length, ih]
theorem patK_lt (l : List UInt8) (at_ p k : Nat) : patK l at_ p k < 2 ^ k := by
  induction k with
  | zero => show 0 < 1; omega
  | succ k ih =>
    unfold patK
    have h2 : 2 ^ k < 2 ^ (k + 1) := Nat.pow_lt_pow_right (by omega) (by omega)
    split
    · exact Nat.xor_lt_two_pow (by omega) h2
    · omega
theorem spoilK_same {l : List UInt8} {at_ p k : Nat} (h : patK l at_ p k = 0) : spoilK l at_ p k = l := by
  induction k with
  | zero => rfl
  | succ k ih =>
    unfold patK at h
    unfold spoilK
    split at h
    · have h1 := patK_lt l at_ p k
      have := xor_zero_iff h
      omega
    · rename_i hc
      rw [if_neg hc]
      exact ih h
theorem spoilK_val (l : List UInt8) (at_ p k : Nat) : valN (spoilK l at_ p k) = valN l ^^^ (patK l at_ p k <<< at_) := by
  induction k with
  | zero => simp [spoilK, patK]
  | succ k ih =>
    unfold spoilK patK
    split
    · rename_i hc
      rw [flipAt_val, spoilK_length, if_pos hc.2, ih, Nat.shiftLeft_xor_distrib, Nat.xor_assoc]
      congr 2
      rw [Nat.shiftLeft_eq, ← Nat.pow_add, Nat.add_comm]
    · exact ih
/-- The checks are the same just if the bytes are. -/
theorem spoil_iff {l : List UInt8} {at_ p : Nat} (hat : at_ ≤ 8 * l.length) : bytesN l = bytesN (spoilK l at_ p 32) ↔ l = spoilK l at_ p 32 := by
  refine ⟨fun e => ?_, fun e => by rw [← e]⟩
  have hl := rawN_lt l (s := 4294967295) (by omega)
  have hs := rawN_lt (spoilK l at_ p 32) (s := 4294967295) (by omega)
  have e2 : rawN 4294967295 l = rawN 4294967295 (spoilK l at_ p 32) := by unfold bytesN at e; omega
  rw [rawN_val (spoilK _ _ _ _), spoilK_length, spoilK_val, ← Nat.xor_assoc, shs_xor, ← rawN_val] at e2
  have e3 : shs (8 * l.length) (patK l at_ p 32 <<< at_) = 0 := by
    have h := congrArg (fun z => rawN 4294967295 l ^^^ z) e2
    simp only [Nat.xor_self, ← Nat.xor_assoc, Nat.zero_xor] at h
    exact h.symm
  rw [show 8 * l.length = at_ + (8 * l.length - at_) by omega, shs_add, shs_shl] at e3
  exact (spoilK_same (shs_eq_zero (patK_lt l at_ p 32) e3)).symm

/-! ### What becomes of a register by noughts, told by what becomes of its highest bit -/
/-- The numbers of a register's lower bits, when the highest one becomes t: bit 31 - i becomes what t does by i shifts. -/
def app (t s : Nat) : Nat → Nat
  | 0 => 0
  | k + 1 => app t s k ^^^ (if s.testBit k = true then shs (31 - k) t else 0)
theorem app_lt {t : Nat} (ht : t < 4294967296) (s k : Nat) : app t s k < 4294967296 := by
  induction k with
  | zero => show 0 < _; omega
  | succ k ih =>
    unfold app
    refine xor_lt ih ?_
    split
    · exact shs_lt _ ht
    · omega
theorem shs_high {k : Nat} (h : k ≤ 31) : shs (31 - k) 2147483648 = 2 ^ k := by
  have h1 := shs_shl (31 - k) (2 ^ k)
  rwa [Nat.shiftLeft_eq, ← Nat.pow_add, show k + (31 - k) = 31 by omega] at h1
theorem mod_succ (s k : Nat) : s % 2 ^ (k + 1) = s % 2 ^ k ^^^ (if s.testBit k = true then 2 ^ k else 0) := by
  apply Nat.eq_of_testBit_eq
  intro i
  rw [Nat.testBit_xor, Nat.testBit_mod_two_pow, Nat.testBit_mod_two_pow]
  by_cases h : s.testBit k = true
  · rw [if_pos h, Nat.testBit_two_pow]
    by_cases hi : k = i
    · subst hi
      simp [h]
    · by_cases h2 : i < k
      · simp [h2, hi, show i < k + 1 by omega]
      · simp [h2, hi, show ¬ i < k + 1 by omega]
  · rw [if_neg h, Nat.zero_testBit]
    by_cases hi : k = i
    · subst hi
      simp [h]
    · by_cases h2 : i < k
      · simp [h2, show i < k + 1 by omega]
      · simp [h2, show ¬ i < k + 1 by omega]
theorem app_mod (n s k : Nat) (hk : k ≤ 32) : app (shs n 2147483648) s k = shs n (s % 2 ^ k) := by
  induction k with
  | zero => rw [Nat.pow_zero, Nat.mod_one, shs_zero]; rfl
  | succ k ih =>
    unfold app
    rw [ih (by omega), mod_succ, shs_xor]
    congr 1
    by_cases h : s.testBit k = true
    · rw [if_pos h, if_pos h, ← shs_add, Nat.add_comm, shs_add, shs_high (by omega)]
    · rw [if_neg h, if_neg h, shs_zero]
/-- What becomes of any register is told by what becomes of its highest bit. -/
theorem app_shs (n : Nat) {s : Nat} (h : s < 4294967296) : app (shs n 2147483648) s 32 = shs n s := by
  rw [app_mod n s 32 (by omega), Nat.mod_eq_of_lt h]

/-- Twice as many shifts: squared, so often. -/
def sqs : Nat → Nat → Nat
  | 0, t => t
  | k + 1, t => sqs k (app t t 32)
theorem sqs_shs (k n : Nat) : sqs k (shs n 2147483648) = shs (2 ^ k * n) 2147483648 := by
  induction k generalizing n with
  | zero => rw [Nat.pow_zero, Nat.one_mul]; rfl
  | succ k ih =>
    show sqs k (app (shs n 2147483648) (shs n 2147483648) 32) = _
    rw [app_shs n (shs_lt n (by omega)), ← shs_add, ih]
    congr 1
    rw [Nat.pow_succ, Nat.mul_assoc]
    congr 1
    omega
theorem sqs_round : sqs 32 1073741824 = 1073741824 := by decide +kernel
/-- After so many shifts each register is what it was. -/
theorem shs_round {s P : Nat} (h : s < 4294967296) (hP : P + 1 = 2 ^ 32) : shs P s = s := by
  have h1 := sqs_shs 32 1
  rw [show shs 1 2147483648 = 1073741824 by decide, sqs_round, Nat.mul_one, ← hP, shs_succ] at h1
  have h2 : shs 1 (shs P 2147483648) = shs 1 2147483648 := by
    rw [show shs 1 2147483648 = 1073741824 by decide]
    exact h1.symm
  have h3 := (shs_inj (shs_lt P (by omega)) (by omega)).1 h2
  rw [← app_shs P h, h3]
  exact app_shs 0 h
theorem shs_rounds {s P : Nat} (h : s < 4294967296) (hP : P + 1 = 2 ^ 32) (k : Nat) : shs (P * k) s = s := by
  induction k with
  | zero => rfl
  | succ k ih => rw [Nat.mul_succ, shs_add, ih, shs_round h hP]
/-- So many noughts, with whole periods left out. -/
theorem noughts_mod {s : Nat} (h : s < 4294967296) (n : Nat) : shs (8 * (n % 4294967295)) s = shs (8 * n) s := by
  obtain ⟨P, hP⟩ : ∃ P : Nat, P = 4294967295 := ⟨_, rfl⟩
  have hp : P + 1 = 2 ^ 32 := by rw [hP]
  rw [← hP]
  have e : 8 * n = P * (8 * (n / P)) + 8 * (n % P) := by
    have := Nat.div_add_mod n P
    have e2 : P * (8 * (n / P)) = 8 * (P * (n / P)) := by ac_rfl
    omega
  rw [e, shs_add, shs_rounds h hp]
/-- A round of Zeros: an odd count takes one part out, an even one none; then there are half as many parts of twice the length. -/
theorem round_odd {x m : Nat} (h : x % 2 = 1) (s : Nat) : shs (8 * (2 * m * (x / 2))) (shs (8 * m) s) = shs (8 * (m * x)) s := by
  rw [← shs_add]
  congr 1
  have e : m * x = m * (2 * (x / 2)) + m := by
    have : x = 2 * (x / 2) + 1 := by omega
    conv => lhs; rw [this]
    rw [Nat.mul_add, Nat.mul_one]
  have e2 : 2 * m * (x / 2) = m * (2 * (x / 2)) := by ac_rfl
  omega
theorem round_even {x m : Nat} (h : x % 2 = 0) (s : Nat) : shs (8 * (2 * m * (x / 2))) s = shs (8 * (m * x)) s := by
  congr 1
  have e : m * x = m * (2 * (x / 2)) := by
    have : x = 2 * (x / 2) := by omega
    conv => lhs; rw [this]
  have e2 : 2 * m * (x / 2) = m * (2 * (x / 2)) := by ac_rfl
  omega
end Go.Proofs.Ytbiecnopgaghbaa.SumM
