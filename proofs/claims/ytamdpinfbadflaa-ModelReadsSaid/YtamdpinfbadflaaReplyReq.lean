/- Plain facts on replies: which are right, their bytes, what bytes say, echoes, what fits. -/
import Derived.Test.YtamdpinfbadflaaAskReq
namespace Go.Proofs.Ytamdpinfbadflaa.ReplyM
open AskM

structure Rep where
  fn : UInt8
  ex : UInt8
  bits : List Bool
  words : List UInt16
  at_ : UInt16
  many : UInt16
deriving DecidableEq
def zeroR : Rep := ⟨0, 0, [], [], 0, 0⟩
inductive Kind where
  | exc | bitsR | wordsR | bitW | wordW | listW (most : Nat)
deriving DecidableEq
def kindOfN (c : Nat) : Option Kind :=
  if 128 ≤ c then some .exc else if c = 1 then some .bitsR else if c = 2 then some .bitsR else if c = 3 then some .wordsR else if c = 4 then some .wordsR else if c = 23 then some .wordsR
  else if c = 5 then some .bitW else if c = 6 then some .wordW else if c = 15 then some (.listW 1968) else if c = 16 then some (.listW 123) else none
def kindForN (r : Rep) : Option Kind := if 0 < r.ex.toNat then some .exc else kindOfN r.fn.toNat
def wrongN (f x : UInt8) : Rep := ⟨f % 128, x, [], [], 0, 0⟩
/-- What of a reply its kind lets stand. -/
def onlyK : Kind → Rep → Rep
  | .exc, r => wrongN r.fn r.ex
  | .bitsR, r => ⟨r.fn, 0, r.bits, [], 0, 0⟩
  | .wordsR, r => ⟨r.fn, 0, [], r.words, 0, 0⟩
  | .bitW, r => ⟨r.fn, 0, r.bits, [], r.at_, 0⟩
  | .wordW, r => ⟨r.fn, 0, [], r.words, r.at_, 0⟩
  | .listW _, r => ⟨r.fn, 0, [], [], r.at_, r.many⟩
def countK : Kind → Rep → Bool
  | .exc, r => decide (1 ≤ r.ex.toNat) && decide (r.ex.toNat ≤ 4)
  | .bitsR, r => decide (8 ≤ r.bits.length) && decide (r.bits.length ≤ 2000) && decide (r.bits.length % 8 = 0)
  | .wordsR, r => decide (1 ≤ r.words.length) && decide (r.words.length ≤ 125)
  | .bitW, r => decide (r.bits.length = 1)
  | .wordW, r => decide (r.words.length = 1)
  | .listW m, r => decide (1 ≤ r.many.toNat) && decide (r.many.toNat ≤ m)
def rightK (k : Kind) (r : Rep) : Bool := countK k r && decide (r = onlyK k r)
def writeK : Kind → Rep → List UInt8
  | .exc, r => [r.fn + 128, r.ex]
  | .bitsR, r => r.fn :: UInt8.ofNat (packN r.bits).length :: packN r.bits
  | .wordsR, r => r.fn :: UInt8.ofNat (putN r.words).length :: putN r.words
  | .bitW, r => r.fn :: putN [r.at_, if r.bits.getD 0 false = true then 65280 else 0]
  | .wordW, r => r.fn :: putN [r.at_, r.words.getD 0 0]
  | .listW _, r => r.fn :: putN [r.at_, r.many]
def listedN (b : List UInt8) : Bool := decide (2 ≤ b.length) && decide (b.length = 2 + (b.getD 1 0).toNat)
def readK : Kind → List UInt8 → Option Rep
  | .exc, b => if b.length = 2 then some (wrongN (b.getD 0 0) (b.getD 1 0)) else none
  | .bitsR, b => if listedN b = true then some ⟨b.getD 0 0, 0, unpackN (b.drop 2), [], 0, 0⟩ else none
  | .wordsR, b => if listedN b = true ∧ (b.length - 2) % 2 = 0 then some ⟨b.getD 0 0, 0, [], numsN (b.drop 2), 0, 0⟩ else none
  | .bitW, b => if b.length = 5 ∧ (at16 b 3 = 65280 ∨ at16 b 3 = 0) then some ⟨b.getD 0 0, 0, [decide (at16 b 3 = 65280)], [], at16 b 1, 0⟩ else none
  | .wordW, b => if b.length = 5 then some ⟨b.getD 0 0, 0, [], [at16 b 3], at16 b 1, 0⟩ else none
  | .listW _, b => if b.length = 5 then some ⟨b.getD 0 0, 0, [], [], at16 b 1, at16 b 3⟩ else none
def rrightN (r : Rep) : Bool := match kindForN r with
  | none => false
  | some k => rightK k r
def rbytesN (r : Rep) : Option (List UInt8) := match kindForN r with
  | none => none
  | some k => if rightK k r = true then some (writeK k r) else none
def rparseN (b : List UInt8) : Option Rep :=
  if b.length = 0 then none else
  match kindOfN (b.getD 0 0).toNat with
  | none => none
  | some k => match readK k b with
    | none => none
    | some r => if rightK k r = true then some r else none

theorem kindOf_cases {c : Nat} {k : Kind} (h : kindOfN c = some k) : (128 ≤ c ∧ k = .exc) ∨ ((c = 1 ∨ c = 2) ∧ k = .bitsR) ∨ ((c = 3 ∨ c = 4 ∨ c = 23) ∧ k = .wordsR) ∨ (c = 5 ∧ k = .bitW) ∨ (c = 6 ∧ k = .wordW) ∨ (c = 15 ∧ k = .listW 1968) ∨ (c = 16 ∧ k = .listW 123) := by
  unfold kindOfN at h
  repeat' split at h
  all_goals first | (injection h with h; subst h; simp; omega) | cases h
theorem kindOf_exc {c : Nat} (h : 128 ≤ c) : kindOfN c = some .exc := by unfold kindOfN; rw [if_pos h]
theorem rightK_iff {k : Kind} {r : Rep} : rightK k r = true ↔ countK k r = true ∧ r = onlyK k r := by unfold rightK; simp

theorem five {b : List UInt8} (h : b.length = 5) : ∃ x y z u v, b = [x, y, z, u, v] := by
  rcases b with _ | ⟨x, _ | ⟨y, _ | ⟨z, _ | ⟨u, _ | ⟨v, _ | ⟨t, b⟩⟩⟩⟩⟩⟩ <;> first | (simp at h; done) | exact ⟨x, y, z, u, v, rfl⟩
theorem two {b : List UInt8} (h : b.length = 2) : ∃ x y, b = [x, y] := by
  rcases b with _ | ⟨x, _ | ⟨y, _ | ⟨z, b⟩⟩⟩ <;> first | (simp at h; done) | exact ⟨x, y, rfl⟩
theorem put_two (x y z u : UInt8) : putN [num x y, num z u] = [x, y, z, u] := by simp [putN, hi_num, lo_num]
theorem at_five1 (x y z u v : UInt8) : at16 [x, y, z, u, v] 1 = num y z := by simp [at16]
theorem at_five3 (x y z u v : UInt8) : at16 [x, y, z, u, v] 3 = num u v := by simp [at16]
theorem listed_cons {b : List UInt8} (h : listedN b = true) : ∃ x y l, b = x :: y :: l ∧ l.length = y.toNat := by
  unfold listedN at h
  simp only [Bool.and_eq_true, decide_eq_true_eq] at h
  rcases b with _ | ⟨x, _ | ⟨y, l⟩⟩
  · simp at h
  · simp at h
  · simp [List.getD] at h
    exact ⟨x, y, l, rfl, by omega⟩
theorem listed_of {x y : UInt8} {l : List UInt8} (h : l.length = y.toNat) : listedN (x :: y :: l) = true := by
  unfold listedN
  simp [List.getD, h]; omega
theorem put_nums {l : List UInt8} (h : l.length % 2 = 0) : putN (numsN l) = l := by
  fun_induction numsN l with
  | case1 x y r ih => rw [putN_cons, hi_num, lo_num, ih (by simp at h; omega)]
  | case2 l hl =>
    rcases l with _ | ⟨x, _ | ⟨y, r⟩⟩
    · rfl
    · simp at h
    · exact absurd rfl (hl x y r)
theorem first8 {x : UInt8} (h : 128 ≤ x.toNat) : x % 128 + 128 = x := by
  apply UInt8.toNat_inj.1
  have := x.toNat_lt
  rw [UInt8.toNat_add, UInt8.toNat_mod]
  show (x.toNat % 128 + 128) % 256 = x.toNat
  omega
theorem first7 {x : UInt8} (h : x % 128 = x) : (x + 128) % 128 = x ∧ 128 ≤ (x + 128).toNat := by
  have h1 := congrArg UInt8.toNat h
  rw [UInt8.toNat_mod] at h1
  have h2 : x.toNat % 128 = x.toNat := h1
  have h3 : (x + 128).toNat = x.toNat + 128 := by rw [UInt8.toNat_add]; show (x.toNat + 128) % 256 = _; omega
  refine ⟨UInt8.toNat_inj.1 ?_, by omega⟩
  rw [UInt8.toNat_mod, h3]
  show (x.toNat + 128) % 128 = _
  omega
theorem len8 {n : Nat} (h : n < 256) : (UInt8.ofNat n).toNat = n := ofNat_toNat8 h
theorem ofNat_len {y : UInt8} {n : Nat} (h : n = y.toNat) : UInt8.ofNat n = y := by subst h; simp

/-- What is read of bytes is right only if these say it. -/
theorem write_of_read {k : Kind} {b : List UInt8} {r : Rep} (hk : kindOfN (b.getD 0 0).toNat = some k) (hr : readK k b = some r) (hR : rightK k r = true) : kindForN r = some k ∧ writeK k r = b := by
  obtain ⟨hc, ho⟩ := rightK_iff.1 hR
  cases k with
  | exc =>
    simp only [readK] at hr
    split at hr
    case isFalse => cases hr
    rename_i h2
    obtain ⟨x, y, rfl⟩ := two h2
    injection hr with hr
    subst hr
    simp only [List.getD, List.getElem?_cons_zero, Option.getD_some] at hk
    have hx : 128 ≤ x.toNat := by rcases kindOf_cases hk with h | h | h | h | h | h | h <;> first | exact h.1 | (cases h.2)
    simp only [countK] at hc
    simp [wrongN, List.getD] at hc
    refine ⟨?_, ?_⟩
    · unfold kindForN
      rw [if_pos]
      simp [wrongN, List.getD]; omega
    · simp [writeK, wrongN, List.getD, first8 hx]
  | bitsR =>
    simp only [readK] at hr
    split at hr
    case isFalse => cases hr
    rename_i h2
    obtain ⟨x, y, l, rfl, hl⟩ := listed_cons h2
    injection hr with hr
    subst hr
    simp only [List.getD, List.getElem?_cons_zero, Option.getD_some] at hk
    refine ⟨by unfold kindForN; rw [if_neg (by simp)]; simpa [List.getD] using hk, ?_⟩
    simp [writeK, List.getD, pack_unpack, ofNat_len hl]
  | wordsR =>
    simp only [readK] at hr
    split at hr
    case isFalse => cases hr
    rename_i h2
    obtain ⟨h2, h3⟩ := h2
    obtain ⟨x, y, l, rfl, hl⟩ := listed_cons h2
    injection hr with hr
    subst hr
    simp only [List.getD, List.getElem?_cons_zero, Option.getD_some] at hk
    refine ⟨by unfold kindForN; rw [if_neg (by simp)]; simpa [List.getD] using hk, ?_⟩
    have h4 : putN (numsN l) = l := put_nums (by simpa using h3)
    simp [writeK, List.getD, h4, ofNat_len hl]
  | bitW =>
    simp only [readK] at hr
    split at hr
    case isFalse => cases hr
    rename_i h2
    obtain ⟨h2, h3⟩ := h2
    obtain ⟨x, y, z, u, v, rfl⟩ := five h2
    injection hr with hr
    subst hr
    simp only [List.getD, List.getElem?_cons_zero, Option.getD_some] at hk
    refine ⟨by unfold kindForN; rw [if_neg (by simp)]; simpa [List.getD] using hk, ?_⟩
    simp only [writeK, at_five1, at_five3, List.getD, List.getElem?_cons_zero, Option.getD_some] at h3 ⊢
    rw [← put_two]
    rcases h3 with h3 | h3 <;> simp [h3]
  | wordW =>
    simp only [readK] at hr
    split at hr
    case isFalse => cases hr
    rename_i h2
    obtain ⟨x, y, z, u, v, rfl⟩ := five h2
    injection hr with hr
    subst hr
    simp only [List.getD, List.getElem?_cons_zero, Option.getD_some] at hk
    refine ⟨by unfold kindForN; rw [if_neg (by simp)]; simpa [List.getD] using hk, ?_⟩
    simp only [writeK, at_five1, at_five3, List.getD, List.getElem?_cons_zero, Option.getD_some]
    rw [put_two]
  | listW m =>
    simp only [readK] at hr
    split at hr
    case isFalse => cases hr
    rename_i h2
    obtain ⟨x, y, z, u, v, rfl⟩ := five h2
    injection hr with hr
    subst hr
    simp only [List.getD, List.getElem?_cons_zero, Option.getD_some] at hk
    refine ⟨by unfold kindForN; rw [if_neg (by simp)]; simpa [List.getD] using hk, ?_⟩
    simp only [writeK, at_five1, at_five3, List.getD, List.getElem?_cons_zero, Option.getD_some]
    rw [put_two]
/-- How long what says a reply is, by its first two bytes. -/
def rneeds (b : List UInt8) : Nat := if 128 ≤ (b.getD 0 0).toNat then 2 else if (b.getD 0 0).toNat = 1 ∨ (b.getD 0 0).toNat = 2 ∨ (b.getD 0 0).toNat = 3 ∨ (b.getD 0 0).toNat = 4 ∨ (b.getD 0 0).toNat = 23 then 2 + (b.getD 1 0).toNat else 5
/-- What is said of a right reply is read so. -/
theorem read_of_write {k : Kind} {r : Rep} (hk : kindForN r = some k) (hR : rightK k r = true) :
    kindOfN ((writeK k r).getD 0 0).toNat = some k ∧ readK k (writeK k r) = some r ∧ (writeK k r).length = rneeds (writeK k r) ∧ 2 ≤ (writeK k r).length ∧ (writeK k r).length ≤ 252 := by
  obtain ⟨hc, ho⟩ := rightK_iff.1 hR
  unfold kindForN at hk
  cases k with
  | exc =>
    have h1 : r.fn % 128 = r.fn := by have := congrArg Rep.fn ho; simpa [onlyK, wrongN] using this.symm
    obtain ⟨h2, h3⟩ := first7 h1
    refine ⟨by simpa [writeK, List.getD] using kindOf_exc h3, ?_, ?_, by simp [writeK], by simp [writeK]⟩
    · have e : wrongN (r.fn + 128) r.ex = r := by
        conv => rhs; rw [ho]
        simp [onlyK, wrongN, h2, h1]
      rw [show writeK .exc r = [r.fn + 128, r.ex] from rfl]
      simp only [readK]
      rw [if_pos (by simp)]
      simp [List.getD, e]
    · unfold rneeds
      rw [if_pos (by simpa [writeK, List.getD] using h3)]
      simp [writeK]
  | bitsR =>
    simp only [countK] at hc
    simp only [Bool.and_eq_true, decide_eq_true_eq] at hc
    have hx : r.ex = 0 := by have := congrArg Rep.ex ho; simpa [onlyK] using this
    rw [if_neg (by simp [hx])] at hk
    have hc1 : r.fn.toNat = 1 ∨ r.fn.toNat = 2 := by rcases kindOf_cases hk with h | h | h | h | h | h | h <;> first | exact h.1 | (cases h.2)
    have hp : (packN r.bits).length = r.bits.length / 8 := by rw [length_packN]; omega
    have hu : unpackN (packN r.bits) = r.bits := by
      rw [unpack_pack]
      have : 8 * ((r.bits.length + 7) / 8) - r.bits.length = 0 := by omega
      rw [this]; simp
    have hl : (packN r.bits).length = (UInt8.ofNat (packN r.bits).length).toNat := by rw [len8 (by omega)]
    refine ⟨by simpa [writeK, List.getD] using hk, ?_, ?_, by simp [writeK], by simp [writeK]; omega⟩
    · rw [show writeK .bitsR r = r.fn :: UInt8.ofNat (packN r.bits).length :: packN r.bits from rfl]
      simp only [readK]
      rw [if_pos (listed_of hl)]
      conv => rhs; rw [ho]
      simp [List.getD, hu, onlyK]
    · unfold rneeds
      rw [if_neg (by simp [writeK, List.getD]; omega), if_pos (by simp [writeK, List.getD]; omega)]
      simp only [writeK, List.getD, List.getElem?_cons_succ, List.getElem?_cons_zero, Option.getD_some, List.length_cons]
      omega
  | wordsR =>
    simp only [countK] at hc
    simp only [Bool.and_eq_true, decide_eq_true_eq] at hc
    have hx : r.ex = 0 := by have := congrArg Rep.ex ho; simpa [onlyK] using this
    rw [if_neg (by simp [hx])] at hk
    have hc1 : r.fn.toNat = 3 ∨ r.fn.toNat = 4 ∨ r.fn.toNat = 23 := by rcases kindOf_cases hk with h | h | h | h | h | h | h <;> first | exact h.1 | (cases h.2)
    have hp := length_putN r.words
    have hl : (putN r.words).length = (UInt8.ofNat (putN r.words).length).toNat := by rw [len8 (by omega)]
    refine ⟨by simpa [writeK, List.getD] using hk, ?_, ?_, by simp [writeK], by simp [writeK]; omega⟩
    · rw [show writeK .wordsR r = r.fn :: UInt8.ofNat (putN r.words).length :: putN r.words from rfl]
      simp only [readK]
      rw [if_pos ⟨listed_of hl, by simp [hp]⟩]
      conv => rhs; rw [ho]
      simp [List.getD, nums_put, onlyK]
    · unfold rneeds
      rw [if_neg (by simp [writeK, List.getD]; omega), if_pos (by simp [writeK, List.getD]; omega)]
      simp only [writeK, List.getD, List.getElem?_cons_succ, List.getElem?_cons_zero, Option.getD_some, List.length_cons]
      omega
  | bitW =>
    simp only [countK] at hc
    simp only [decide_eq_true_eq] at hc
    have hx : r.ex = 0 := by have := congrArg Rep.ex ho; simpa [onlyK] using this
    rw [if_neg (by simp [hx])] at hk
    have hc1 : r.fn.toNat = 5 := by rcases kindOf_cases hk with h | h | h | h | h | h | h <;> first | exact h.1 | (cases h.2)
    obtain ⟨y, hy⟩ := list_one hc
    refine ⟨by simpa [writeK, List.getD] using hk, ?_, ?_, by simp [writeK, putN], by simp [writeK, putN]⟩
    · have e1 : at16 (writeK .bitW r) 1 = r.at_ := by simp [writeK, putN, at16, num_hi_lo]
      have e3 : at16 (writeK .bitW r) 3 = if y = true then 65280 else 0 := by simp [writeK, putN, at16, num_hi_lo, hy, List.getD]
      simp only [readK]
      rw [if_pos ⟨by simp [writeK, putN], by rw [e3]; cases y <;> simp⟩, e1, e3]
      conv => rhs; rw [ho]
      cases y <;> simp [writeK, List.getD, onlyK, hy]
    · unfold rneeds
      rw [if_neg (by simp [writeK, List.getD]; omega), if_neg (by simp [writeK, List.getD]; omega)]
      simp [writeK, putN]
  | wordW =>
    simp only [countK] at hc
    simp only [decide_eq_true_eq] at hc
    have hx : r.ex = 0 := by have := congrArg Rep.ex ho; simpa [onlyK] using this
    rw [if_neg (by simp [hx])] at hk
    have hc1 : r.fn.toNat = 6 := by rcases kindOf_cases hk with h | h | h | h | h | h | h <;> first | exact h.1 | (cases h.2)
    obtain ⟨y, hy⟩ := list_one hc
    refine ⟨by simpa [writeK, List.getD] using hk, ?_, ?_, by simp [writeK, putN], by simp [writeK, putN]⟩
    · have e1 : at16 (writeK .wordW r) 1 = r.at_ := by simp [writeK, putN, at16, num_hi_lo]
      have e3 : at16 (writeK .wordW r) 3 = y := by simp [writeK, putN, at16, num_hi_lo, hy, List.getD]
      simp only [readK]
      rw [if_pos (by simp [writeK, putN]), e1, e3]
      conv => rhs; rw [ho]
      simp [writeK, List.getD, onlyK, hy]
    · unfold rneeds
      rw [if_neg (by simp [writeK, List.getD]; omega), if_neg (by simp [writeK, List.getD]; omega)]
      simp [writeK, putN]
  | listW m =>
    have hx : r.ex = 0 := by have := congrArg Rep.ex ho; simpa [onlyK] using this
    rw [if_neg (by simp [hx])] at hk
    have hc1 : r.fn.toNat = 15 ∨ r.fn.toNat = 16 := by rcases kindOf_cases hk with h | h | h | h | h | h | h <;> first | (exact .inl h.1) | (exact .inr h.1) | (cases h.2)
    refine ⟨by simpa [writeK, List.getD] using hk, ?_, ?_, by simp [writeK, putN], by simp [writeK, putN]⟩
    · have e1 : at16 (writeK (.listW m) r) 1 = r.at_ := by simp [writeK, putN, at16, num_hi_lo]
      have e3 : at16 (writeK (.listW m) r) 3 = r.many := by simp [writeK, putN, at16, num_hi_lo]
      simp only [readK]
      rw [if_pos (by simp [writeK, putN]), e1, e3]
      conv => rhs; rw [ho]
      simp [writeK, List.getD, onlyK]
    · unfold rneeds
      rw [if_neg (by simp [writeK, List.getD]; omega), if_neg (by simp [writeK, List.getD]; omega)]
      simp [writeK, putN]
theorem rbytes_some {r : Rep} {b : List UInt8} : rbytesN r = some b ↔ ∃ k, kindForN r = some k ∧ rightK k r = true ∧ writeK k r = b := by
  unfold rbytesN
  cases h : kindForN r with
  | none => simp
  | some k => simp
theorem rrightN_iff {r : Rep} : rrightN r = true ↔ ∃ b, rbytesN r = some b := by
  unfold rrightN rbytesN
  cases h : kindForN r with
  | none => simp
  | some k => by_cases hf : rightK k r = true <;> simp [hf]
theorem rrightN_false {r : Rep} : rrightN r = false ↔ rbytesN r = none := by
  unfold rrightN rbytesN
  cases h : kindForN r with
  | none => simp
  | some k => by_cases hf : rightK k r = true <;> simp [hf]
theorem rbytes_facts {r : Rep} {b : List UInt8} (h : rbytesN r = some b) : b.length = rneeds b ∧ 2 ≤ b.length ∧ b.length ≤ 252 ∧ True := by
  obtain ⟨k, h1, h2, rfl⟩ := rbytes_some.1 h
  obtain ⟨_, _, a, b, c⟩ := read_of_write h1 h2
  exact ⟨a, b, c, trivial⟩
theorem rparse_iff {r : Rep} {b : List UInt8} : rparseN b = some r ↔ rbytesN r = some b := by
  constructor
  · intro h
    unfold rparseN at h
    split at h
    · cases h
    · split at h
      · cases h
      · rename_i k hk
        split at h
        · cases h
        · rename_i r' hr
          split at h
          · rename_i hR
            injection h with h
            subst h
            obtain ⟨h1, h2⟩ := write_of_read hk hr hR
            exact rbytes_some.2 ⟨k, h1, hR, h2⟩
          · cases h
  · intro h
    obtain ⟨k, h1, h2, rfl⟩ := rbytes_some.1 h
    obtain ⟨e1, e2, _, e4, _⟩ := read_of_write h1 h2
    unfold rparseN
    rw [if_neg (by omega)]
    simp only [e1, e2, h2, if_true]
theorem rparse_bytes {r : Rep} {b : List UInt8} (h : rbytesN r = some b) : rparseN b = some r := rparse_iff.2 h
theorem rparse_none {b : List UInt8} : rparseN b = none ↔ ∀ a, rbytesN a ≠ some b := by
  constructor
  · intro h a ha
    rw [rparse_iff.2 ha] at h; cases h
  · intro h
    cases hb : rparseN b with
    | none => rfl
    | some a => exact absurd (rparse_iff.1 hb) (h a)
theorem rbytes_inj {a o : Rep} {b : List UInt8} (h : rbytesN a = some b) (h2 : rbytesN o = some b) : a = o := by
  have := (rparse_iff.2 h).symm.trans (rparse_iff.2 h2)
  injection this
theorem rneeds_prefix {x y : List UInt8} (h2 : 2 ≤ x.length) (hp : x <+: y) : rneeds y = rneeds x := by
  obtain ⟨t, rfl⟩ := hp
  rcases x with _ | ⟨p, _ | ⟨q, r⟩⟩
  · simp at h2
  · simp at h2
  · simp [rneeds, List.getD]
theorem rbytes_prefix {a o : Rep} {x y : List UInt8} (ha : rbytesN a = some x) (ho : rbytesN o = some y) (hp : x <+: y) : x = y := by
  obtain ⟨a1, a2, _, _⟩ := rbytes_facts ha
  obtain ⟨b1, _, _, _⟩ := rbytes_facts ho
  have := rneeds_prefix a2 hp
  exact hp.eq_of_length (by omega)
theorem rparse_take {a : Rep} {b : List UInt8} (h : rbytesN a = some b) {k : Nat} (hk : k < b.length) : rparseN (b.take k) = none := by
  refine rparse_none.2 fun o ho => ?_
  have := congrArg List.length (rbytes_prefix ho h (List.take_prefix k b))
  rw [List.length_take] at this
  omega
theorem rparse_more {a : Rep} {b c : List UInt8} (h : rbytesN a = some b) (hc : c ≠ []) : rparseN (b ++ c) = none := by
  refine rparse_none.2 fun o ho => ?_
  have := congrArg List.length (rbytes_prefix h ho (List.prefix_append b c))
  simp at this
  exact hc this
end Go.Proofs.Ytamdpinfbadflaa.ReplyM
