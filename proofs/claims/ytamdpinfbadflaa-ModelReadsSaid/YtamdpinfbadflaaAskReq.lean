/- Plain facts on requests: which are right, their bytes, what bytes say; no program is named here. -/
import Derived.Test.YtamdpinfbadflaaAskBits
namespace Go.Proofs.Ytamdpinfbadflaa.AskM

structure Req where
  fn : UInt8
  at_ : UInt16
  many : UInt16
  to_ : UInt16
  words : List UInt16
  bits : List Bool
deriving DecidableEq
/-- A request with its function alone. -/
def bare (c : UInt8) : Req := ⟨c, 0, 0, 0, [], []⟩
structure Row where
  many : Nat
  bits : Nat
  words : Nat
  to_ : Bool
deriving DecidableEq

def rowN (c : Nat) : Option Row :=
  if c = 1 then some ⟨2000, 0, 0, false⟩ else if c = 2 then some ⟨2000, 0, 0, false⟩ else if c = 3 then some ⟨125, 0, 0, false⟩ else if c = 4 then some ⟨125, 0, 0, false⟩
  else if c = 5 then some ⟨0, 1, 0, false⟩ else if c = 6 then some ⟨0, 0, 1, false⟩ else if c = 15 then some ⟨1968, 1968, 0, false⟩ else if c = 16 then some ⟨123, 0, 123, false⟩
  else if c = 23 then some ⟨125, 0, 121, true⟩ else none
/-- A function of the table, and its fields. -/
theorem rowN_cases {c : Nat} {F : Row} (h : rowN c = some F) :
    ((c = 1 ∨ c = 2) ∧ F = ⟨2000, 0, 0, false⟩) ∨ ((c = 3 ∨ c = 4) ∧ F = ⟨125, 0, 0, false⟩) ∨ (c = 5 ∧ F = ⟨0, 1, 0, false⟩) ∨ (c = 6 ∧ F = ⟨0, 0, 1, false⟩) ∨
    (c = 15 ∧ F = ⟨1968, 1968, 0, false⟩) ∨ (c = 16 ∧ F = ⟨123, 0, 123, false⟩) ∨ (c = 23 ∧ F = ⟨125, 0, 121, true⟩) := by
  unfold rowN at h
  by_cases h1 : c = 1; · rw [if_pos h1] at h; cases h; simp [h1]
  rw [if_neg h1] at h
  by_cases h2 : c = 2; · rw [if_pos h2] at h; cases h; simp [h2]
  rw [if_neg h2] at h
  by_cases h3 : c = 3; · rw [if_pos h3] at h; cases h; simp [h3]
  rw [if_neg h3] at h
  by_cases h4 : c = 4; · rw [if_pos h4] at h; cases h; simp [h4]
  rw [if_neg h4] at h
  by_cases h5 : c = 5; · rw [if_pos h5] at h; cases h; simp [h5]
  rw [if_neg h5] at h
  by_cases h6 : c = 6; · rw [if_pos h6] at h; cases h; simp [h6]
  rw [if_neg h6] at h
  by_cases h7 : c = 15; · rw [if_pos h7] at h; cases h; simp [h7]
  rw [if_neg h7] at h
  by_cases h8 : c = 16; · rw [if_pos h8] at h; cases h; simp [h8]
  rw [if_neg h8] at h
  by_cases h9 : c = 23; · rw [if_pos h9] at h; cases h; simp [h9]
  rw [if_neg h9] at h
  cases h
def known (c : Nat) : Bool := (rowN c).isSome

def within (n most : Nat) : Bool := decide (min 1 most ≤ n) && decide (n ≤ most)
def listed (F : Row) : Bool := decide (1 < F.bits) || decide (1 < F.words)
def fitN (F : Row) (a : Req) : Bool :=
  within a.many.toNat F.many && within a.bits.length F.bits && within a.words.length F.words && (F.to_ || (decide (a.to_ = 0) && (!listed F || decide (a.bits.length + a.words.length = a.many.toNat))))
def listN (F : Row) (a : Req) : List UInt8 :=
  if F.bits = 1 then putN [if a.bits.getD 0 false = true then 65280 else 0] else if 1 < F.bits then packN a.bits else putN a.words
def writeN (F : Row) (a : Req) : List UInt8 :=
  [a.fn] ++ putN [a.at_] ++ (if 0 < F.many then putN [a.many] else []) ++ (if F.to_ = true then putN [a.to_, UInt16.ofNat a.words.length] else []) ++ (if listed F = true then [UInt8.ofNat (listN F a).length] else []) ++ listN F a
/-- Where what is written begins. -/
def fromN (F : Row) : Nat := 3 + (if 0 < F.many then 2 else 0) + (if F.to_ = true then 4 else 0) + (if listed F = true then 1 else 0)
def readN (F : Row) (b : List UInt8) : Req :=
  { fn := b.getD 0 0, at_ := at16 b 1, many := if 0 < F.many then at16 b 3 else 0, to_ := if F.to_ = true then at16 b (3 + if 0 < F.many then 2 else 0) else 0,
    words := if F.bits = 0 ∧ 0 < F.words then numsN (b.drop (fromN F)) else [],
    bits := if F.bits = 1 then [decide (at16 b (fromN F) = 65280)] else if 1 < F.bits then (unpackN (b.drop (fromN F))).take (at16 b 3).toNat else [] }
def bytesN (a : Req) : Option (List UInt8) :=
  match rowN a.fn.toNat with
  | none => none
  | some F => if fitN F a = true then some (writeN F a) else none
def rightN (a : Req) : Bool :=
  match rowN a.fn.toNat with
  | none => false
  | some F => fitN F a
def parseN (b : List UInt8) : Option Req :=
  if b.length = 0 ∨ 253 < b.length then none else
  match rowN (b.getD 0 0).toNat with
  | none => none
  | some F => if fitN F (readN F b) = true ∧ writeN F (readN F b) = b then some (readN F b) else none
def lookN (b : List UInt8) : Req × Nat :=
  if b.length = 0 then (bare 0, 1) else if known (b.getD 0 0).toNat = false then (bare (b.getD 0 0), 1) else
  match parseN b with
  | some a => (a, 0)
  | none => (bare (b.getD 0 0), 3)

theorem at16_put (n : UInt16) (l m : List UInt8) : at16 (l ++ (hi n :: lo n :: m)) l.length = n := by
  unfold at16
  rw [if_pos (by simp)]
  simp [List.getD, num_hi_lo]
theorem getD_cons_zero' {α : Type} (x d : α) (l : List α) : (x :: l).getD 0 d = x := rfl
/-- The counts of a right request, by its function. -/
theorem fit_facts {F : Row} {a : Req} (h : fitN F a = true) :
    min 1 F.many ≤ a.many.toNat ∧ a.many.toNat ≤ F.many ∧ min 1 F.bits ≤ a.bits.length ∧ a.bits.length ≤ F.bits ∧ min 1 F.words ≤ a.words.length ∧ a.words.length ≤ F.words ∧
    (F.to_ = false → a.to_ = 0 ∧ (listed F = true → a.bits.length + a.words.length = a.many.toNat)) := by
  unfold fitN within at h
  simp only [Bool.and_eq_true, Bool.or_eq_true, decide_eq_true_eq, Bool.not_eq_true'] at h
  obtain ⟨⟨⟨⟨h1, h2⟩, h3, h4⟩, h5, h6⟩, h7⟩ := h
  refine ⟨h1, h2, h3, h4, h5, h6, fun ht => ?_⟩
  rcases h7 with h7 | ⟨h7, h8⟩
  · rw [ht] at h7; cases h7
  · refine ⟨h7, fun hl => ?_⟩
    rcases h8 with h8 | h8
    · rw [hl] at h8; cases h8
    · exact h8
theorem ofNat_toNat16 {n : Nat} (h : n < 65536) : (UInt16.ofNat n).toNat = n := by simp; omega
theorem ofNat_toNat8 {n : Nat} (h : n < 256) : (UInt8.ofNat n).toNat = n := by simp; omega
theorem u16_zero {n : UInt16} (h : n.toNat ≤ 0) : n = 0 := UInt16.toNat_inj.1 (by simpa using h)

/-- The bytes of each function's right requests. -/
theorem write_read (a : Req) : writeN ⟨2000, 0, 0, false⟩ a = a.fn :: hi a.at_ :: lo a.at_ :: hi a.many :: lo a.many :: putN a.words := rfl
theorem write_words (a : Req) : writeN ⟨125, 0, 0, false⟩ a = a.fn :: hi a.at_ :: lo a.at_ :: hi a.many :: lo a.many :: putN a.words := rfl
theorem write_bit (a : Req) : writeN ⟨0, 1, 0, false⟩ a = a.fn :: hi a.at_ :: lo a.at_ :: putN [if a.bits.getD 0 false = true then 65280 else 0] := rfl
theorem write_word (a : Req) : writeN ⟨0, 0, 1, false⟩ a = a.fn :: hi a.at_ :: lo a.at_ :: putN a.words := rfl
theorem write_bits (a : Req) : writeN ⟨1968, 1968, 0, false⟩ a = a.fn :: hi a.at_ :: lo a.at_ :: hi a.many :: lo a.many :: UInt8.ofNat (packN a.bits).length :: packN a.bits := rfl
theorem write_list (a : Req) : writeN ⟨123, 0, 123, false⟩ a = a.fn :: hi a.at_ :: lo a.at_ :: hi a.many :: lo a.many :: UInt8.ofNat (putN a.words).length :: putN a.words := rfl
theorem write_swap (a : Req) : writeN ⟨125, 0, 121, true⟩ a = a.fn :: hi a.at_ :: lo a.at_ :: hi a.many :: lo a.many :: hi a.to_ :: lo a.to_ :: hi (UInt16.ofNat a.words.length) :: lo (UInt16.ofNat a.words.length) :: UInt8.ofNat (putN a.words).length :: putN a.words := rfl

theorem list_one {α : Type} {l : List α} (h : l.length = 1) : ∃ x, l = [x] := by
  rcases l with _ | ⟨x, _ | ⟨y, r⟩⟩
  · simp at h
  · exact ⟨x, rfl⟩
  · simp at h
theorem at16_three (x y z : UInt8) (n : UInt16) (m : List UInt8) : at16 (x :: y :: z :: hi n :: lo n :: m) 3 = n := at16_put n [x, y, z] m
theorem at16_one (x : UInt8) (n : UInt16) (m : List UInt8) : at16 (x :: hi n :: lo n :: m) 1 = n := at16_put n [x] m
theorem at16_five (x y z u v : UInt8) (n : UInt16) (m : List UInt8) : at16 (x :: y :: z :: u :: v :: hi n :: lo n :: m) 5 = n := at16_put n [x, y, z, u, v] m

/-- What is written is read so. -/
theorem read_write {F : Row} {a : Req} (hr : rowN a.fn.toNat = some F) (h : fitN F a = true) : readN F (writeN F a) = a := by
  have hf := fit_facts h
  obtain ⟨fn, at_, many, to_, words, bits⟩ := a
  simp only at hf hr
  rcases rowN_cases hr with ⟨_, rfl⟩ | ⟨_, rfl⟩ | ⟨_, rfl⟩ | ⟨_, rfl⟩ | ⟨_, rfl⟩ | ⟨_, rfl⟩ | ⟨_, rfl⟩ <;> obtain ⟨g1, g2, g3, g4, g5, g6, g7⟩ := hf <;> simp only at g1 g2 g3 g4 g5 g6 g7
  · obtain rfl : words = [] := List.eq_nil_of_length_eq_zero (by omega)
    obtain rfl : bits = [] := List.eq_nil_of_length_eq_zero (by omega)
    obtain rfl := (g7 trivial).1
    rw [write_read]
    unfold readN; simp only [at16_one, at16_three]; rfl
  · obtain rfl : words = [] := List.eq_nil_of_length_eq_zero (by omega)
    obtain rfl : bits = [] := List.eq_nil_of_length_eq_zero (by omega)
    obtain rfl := (g7 trivial).1
    rw [write_words]
    unfold readN; simp only [at16_one, at16_three]; rfl
  · obtain rfl : words = [] := List.eq_nil_of_length_eq_zero (by omega)
    obtain ⟨x, rfl⟩ : ∃ x, bits = [x] := list_one (by omega)
    obtain rfl := (g7 trivial).1
    obtain rfl := u16_zero g2
    rw [write_bit]
    unfold readN; simp only [putN_cons, at16_one]
    rw [show fromN ⟨0, 1, 0, false⟩ = 3 from rfl]
    simp only [at16_three]
    cases x <;> rfl
  · obtain ⟨x, rfl⟩ : ∃ x, words = [x] := list_one (by omega)
    obtain rfl : bits = [] := List.eq_nil_of_length_eq_zero (by omega)
    obtain rfl := (g7 trivial).1
    obtain rfl := u16_zero g2
    rw [write_word]
    unfold readN; simp only [putN_cons, at16_one]
    rw [show fromN ⟨0, 0, 1, false⟩ = 3 from rfl]
    simp [numsN, num_hi_lo, putN]
  · obtain rfl : words = [] := List.eq_nil_of_length_eq_zero (by omega)
    obtain ⟨rfl, g8⟩ := g7 trivial
    have g9 : bits.length = many.toNat := g8 rfl
    rw [write_bits]
    unfold readN; simp only [at16_one, at16_three]
    rw [show fromN ⟨1968, 1968, 0, false⟩ = 6 from rfl, ← g9]
    simp [take_unpack_pack]
  · obtain rfl : bits = [] := List.eq_nil_of_length_eq_zero (by omega)
    obtain ⟨rfl, g8⟩ := g7 trivial
    rw [write_list]
    unfold readN; simp only [at16_one, at16_three]
    rw [show fromN ⟨123, 0, 123, false⟩ = 6 from rfl]
    simp [nums_put]
  · obtain rfl : bits = [] := List.eq_nil_of_length_eq_zero (by omega)
    rw [write_swap]
    unfold readN; simp only [at16_one, at16_three]
    rw [show fromN ⟨125, 0, 121, true⟩ = 10 from rfl]
    simp [nums_put, at16_five]

/-- How long bytes are that say a request, by themselves. -/
def needs (b : List UInt8) : Nat := if (b.getD 0 0).toNat = 15 ∨ (b.getD 0 0).toNat = 16 then 6 + (b.getD 5 0).toNat else if (b.getD 0 0).toNat = 23 then 10 + (b.getD 9 0).toNat else 5
theorem write_facts {F : Row} {a : Req} (hr : rowN a.fn.toNat = some F) (h : fitN F a = true) :
    (writeN F a).length = needs (writeN F a) ∧ 5 ≤ (writeN F a).length ∧ (writeN F a).length ≤ 252 ∧ (writeN F a).getD 0 0 = a.fn := by
  have hf := fit_facts h
  obtain ⟨fn, at_, many, to_, words, bits⟩ := a
  simp only at hf hr
  have hn : ∀ l : List UInt8, needs (fn :: l) = if fn.toNat = 15 ∨ fn.toNat = 16 then 6 + ((fn :: l).getD 5 0).toNat else if fn.toNat = 23 then 10 + ((fn :: l).getD 9 0).toNat else 5 := fun _ => rfl
  rcases rowN_cases hr with ⟨hc, rfl⟩ | ⟨hc, rfl⟩ | ⟨hc, rfl⟩ | ⟨hc, rfl⟩ | ⟨hc, rfl⟩ | ⟨hc, rfl⟩ | ⟨hc, rfl⟩ <;> obtain ⟨g1, g2, g3, g4, g5, g6, g7⟩ := hf <;> simp only at g1 g2 g3 g4 g5 g6 g7
  · obtain rfl : words = [] := List.eq_nil_of_length_eq_zero (by omega)
    rw [write_read]
    rw [hn, if_neg (show ¬ (fn.toNat = 15 ∨ fn.toNat = 16) by omega), if_neg (show ¬ fn.toNat = 23 by omega)]
    simp [putN]
  · obtain rfl : words = [] := List.eq_nil_of_length_eq_zero (by omega)
    rw [write_words]
    rw [hn, if_neg (show ¬ (fn.toNat = 15 ∨ fn.toNat = 16) by omega), if_neg (show ¬ fn.toNat = 23 by omega)]
    simp [putN]
  · rw [write_bit]
    rw [hn, if_neg (show ¬ (fn.toNat = 15 ∨ fn.toNat = 16) by omega), if_neg (show ¬ fn.toNat = 23 by omega)]
    simp [putN]
  · obtain ⟨x, rfl⟩ : ∃ x, words = [x] := list_one (by omega)
    rw [write_word]
    rw [hn, if_neg (show ¬ (fn.toNat = 15 ∨ fn.toNat = 16) by omega), if_neg (show ¬ fn.toNat = 23 by omega)]
    simp [putN]
  · obtain ⟨rfl, g8⟩ := g7 trivial
    have hl := length_packN bits
    rw [write_bits]
    rw [hn, if_pos (by omega)]
    simp [List.getD]
    omega
  · obtain ⟨rfl, g8⟩ := g7 trivial
    have hl := length_putN words
    rw [write_list]
    rw [hn, if_pos (by omega)]
    simp [List.getD]
    omega
  · have hl := length_putN words
    rw [write_swap]
    rw [hn, if_neg (by omega), if_pos (by omega)]
    simp [List.getD]
    omega

theorem bytesN_some {a : Req} {b : List UInt8} : bytesN a = some b ↔ ∃ F, rowN a.fn.toNat = some F ∧ fitN F a = true ∧ writeN F a = b := by
  unfold bytesN
  cases hr : rowN a.fn.toNat with
  | none => simp
  | some F =>
    by_cases hf : fitN F a = true
    · simp [hf]
    · simp [hf]
theorem rightN_iff {a : Req} : rightN a = true ↔ ∃ b, bytesN a = some b := by
  unfold rightN bytesN
  cases hr : rowN a.fn.toNat with
  | none => simp
  | some F => by_cases hf : fitN F a = true <;> simp [hf]
theorem rightN_false {a : Req} : rightN a = false ↔ bytesN a = none := by
  unfold rightN bytesN
  cases hr : rowN a.fn.toNat with
  | none => simp
  | some F => by_cases hf : fitN F a = true <;> simp [hf]
theorem bytes_facts {a : Req} {b : List UInt8} (h : bytesN a = some b) : b.length = needs b ∧ 5 ≤ b.length ∧ b.length ≤ 252 ∧ b.getD 0 0 = a.fn := by
  obtain ⟨F, hr, hf, rfl⟩ := bytesN_some.1 h
  exact write_facts hr hf
/-- What bytes say is what says them. -/
theorem parse_iff {a : Req} {b : List UInt8} : parseN b = some a ↔ bytesN a = some b := by
  constructor
  · intro h
    unfold parseN at h
    split at h
    · cases h
    · split at h
      · cases h
      · rename_i F hr
        split at h
        · rename_i hf
          injection h with h
          subst h
          exact bytesN_some.2 ⟨F, hr, hf.1, hf.2⟩
        · cases h
  · intro h
    obtain ⟨h1, h2, h3, h4⟩ := bytes_facts h
    obtain ⟨F, hr, hf, hw⟩ := bytesN_some.1 h
    have hrd := read_write hr hf
    rw [hw] at hrd
    unfold parseN
    rw [if_neg (by omega), h4, hr]
    simp only [hrd, hf, hw, and_self, if_true]
theorem parse_none {b : List UInt8} : parseN b = none ↔ ∀ a, bytesN a ≠ some b := by
  constructor
  · intro h a ha
    rw [parse_iff.2 ha] at h; cases h
  · intro h
    cases hp : parseN b with
    | none => rfl
    | some a => exact absurd (parse_iff.1 hp) (h a)
theorem parse_bytes {a : Req} {b : List UInt8} (h : bytesN a = some b) : parseN b = some a := parse_iff.2 h
theorem bytes_inj {a o : Req} {b : List UInt8} (h : bytesN a = some b) (h2 : bytesN o = some b) : a = o := by
  have := parse_iff.2 h
  rw [parse_iff.2 h2] at this
  injection this with this
  exact this.symm
/-- Nothing less, and nothing more, is one. -/
theorem needs_prefix {x y : List UInt8} (hx : x.length = needs x) (h5 : 5 ≤ x.length) (hp : x <+: y) : needs y = needs x := by
  obtain ⟨z, rfl⟩ := hp
  have g : ∀ i, i < x.length → (x ++ z).getD i 0 = x.getD i 0 := fun i hi => by simp [List.getD, List.getElem?_append_left hi]
  unfold needs at hx ⊢
  rw [g 0 (by omega)]
  by_cases h1 : (x.getD 0 0).toNat = 15 ∨ (x.getD 0 0).toNat = 16
  · rw [if_pos h1] at hx ⊢
    rw [if_pos h1, g 5 (by omega)]
  · rw [if_neg h1] at hx ⊢
    rw [if_neg h1]
    by_cases h2 : (x.getD 0 0).toNat = 23
    · rw [if_pos h2] at hx ⊢
      rw [if_pos h2, g 9 (by omega)]
    · rw [if_neg h2, if_neg h2]
theorem bytes_prefix {a o : Req} {x y : List UInt8} (ha : bytesN a = some x) (ho : bytesN o = some y) (hp : x <+: y) : x = y := by
  obtain ⟨a1, a2, _, _⟩ := bytes_facts ha
  obtain ⟨o1, _, _, _⟩ := bytes_facts ho
  exact hp.eq_of_length (by rw [a1, o1, needs_prefix a1 a2 hp])
theorem parse_take {a : Req} {b : List UInt8} (h : bytesN a = some b) {k : Nat} (hk : k < b.length) : parseN (b.take k) = none := by
  refine parse_none.2 fun o ho => ?_
  have := bytes_prefix ho h (List.take_prefix _ _)
  have := congrArg List.length this
  rw [List.length_take] at this
  omega
theorem parse_more {a : Req} {b c : List UInt8} (h : bytesN a = some b) (hc : c ≠ []) : parseN (b ++ c) = none := by
  refine parse_none.2 fun o ho => ?_
  have := bytes_prefix h ho (List.prefix_append _ _)
  have := congrArg List.length this
  rw [List.length_append] at this
  exact hc (List.eq_nil_of_length_eq_zero (by omega))
theorem parse_short {b : List UInt8} (h : b.length < 5) : parseN b = none := parse_none.2 fun o ho => by have := (bytes_facts ho).2.1; omega
theorem known_iff {c : Nat} : known c = true ↔ c = 1 ∨ c = 2 ∨ c = 3 ∨ c = 4 ∨ c = 5 ∨ c = 6 ∨ c = 15 ∨ c = 16 ∨ c = 23 := by
  unfold known
  constructor
  · intro h
    obtain ⟨F, hF⟩ := Option.isSome_iff_exists.1 h
    have := rowN_cases hF
    omega
  · rintro (rfl | rfl | rfl | rfl | rfl | rfl | rfl | rfl | rfl) <;> rfl
theorem parse_known {b : List UInt8} {a : Req} (h : parseN b = some a) : known (b.getD 0 0).toNat = true := by
  have h1 := parse_iff.1 h
  obtain ⟨F, hr, _, _⟩ := bytesN_some.1 h1
  rw [(bytes_facts h1).2.2.2]
  unfold known
  rw [hr]
  rfl
end Go.Proofs.Ytamdpinfbadflaa.AskM
