/- Frames over TCP, plainly: which are right, their bytes, what bytes begin with. -/
namespace Go.Proofs.Yteekdginloljjaa.MbM

/-- A frame. -/
structure Fr where
  tx : UInt16
  unit : UInt8
  pdu : List UInt8

theorem Fr.ext_ {x y : Fr} (h1 : x.tx = y.tx) (h2 : x.unit = y.unit) (h3 : x.pdu = y.pdu) : x = y := by
  cases x; cases y; simp_all

def Right (x : Fr) : Prop := 1 ≤ x.pdu.length ∧ x.pdu.length ≤ 253
instance (x : Fr) : Decidable (Right x) := inferInstanceAs (Decidable (_ ∧ _))
def hi16 (n : Nat) : UInt8 := UInt8.ofNat (n / 256)
def lo16 (n : Nat) : UInt8 := UInt8.ofNat (n % 256)
def packN (x : Fr) : List UInt8 := [hi16 x.tx.toNat, lo16 x.tx.toNat, 0, 0, hi16 (x.pdu.length + 1), lo16 (x.pdu.length + 1), x.unit] ++ x.pdu
theorem packN_length (x : Fr) : (packN x).length = 7 + x.pdu.length := by simp [packN]; omega

/-- A byte of the header, those that are missing taken from a right one. -/
def hd (b : List UInt8) (i : Nat) : Nat := match b[i]? with
  | some c => c.toNat
  | none => if i = 5 then 2 else 0
def lenN (b : List UInt8) : Nat := hd b 4 * 256 + hd b 5
def zeroN (b : List UInt8) : Nat := hd b 2 * 256 + hd b 3
def begunB (b : List UInt8) : Bool := decide (zeroN b = 0) && decide (2 ≤ lenN b) && decide (lenN b ≤ 254)
theorem hd_lt (b : List UInt8) (i : Nat) : hd b i < 256 := by
  unfold hd; split
  · exact UInt8.toNat_lt _
  · split <;> omega
theorem lenN_lt (b : List UInt8) : lenN b < 65536 := by
  have := hd_lt b 4; have := hd_lt b 5; unfold lenN; omega
theorem begun_iff (b : List UInt8) : begunB b = true ↔ hd b 2 = 0 ∧ hd b 3 = 0 ∧ hd b 4 = 0 ∧ 2 ≤ hd b 5 ∧ hd b 5 ≤ 254 := by
  have h4 := hd_lt b 4; have h5 := hd_lt b 5
  unfold begunB zeroN lenN
  simp only [Bool.and_eq_true]
  rw [decide_eq_true_iff, decide_eq_true_iff, decide_eq_true_iff]
  omega
def txN (b : List UInt8) : UInt16 := UInt16.ofNat (hd b 0 * 256 + hd b 1)

/-- The frame that bytes begin with, and what is behind it. -/
def first (b : List UInt8) : Option (Fr × List UInt8) :=
  if 7 ≤ b.length ∧ begunB b = true ∧ 6 + lenN b ≤ b.length then some (⟨txN b, b.getD 6 0, (b.take (6 + lenN b)).drop 7⟩, b.drop (6 + lenN b)) else none

theorem hd_append {b t : List UInt8} {i : Nat} (h : i < b.length) : hd (b ++ t) i = hd b i := by
  unfold hd; rw [List.getElem?_append_left h]
theorem hd_getD {b : List UInt8} {i : Nat} (h : i < b.length) : hd b i = (b.getD i 0).toNat := by
  unfold hd; rw [List.getElem?_eq_getElem h]; simp [List.getD, List.getElem?_eq_getElem h]
theorem u8_hi {n : Nat} (h : n < 65536) : (hi16 n).toNat = n / 256 := by unfold hi16; simp; omega
theorem u8_lo (n : Nat) : (lo16 n).toNat = n % 256 := by unfold lo16; simp
theorem hd_pack0 (x : Fr) (t : List UInt8) : hd (packN x ++ t) 0 = x.tx.toNat / 256 := by
  have := x.tx.toNat_lt
  show (hi16 x.tx.toNat).toNat = _
  exact u8_hi (by simpa using this)
theorem hd_pack1 (x : Fr) (t : List UInt8) : hd (packN x ++ t) 1 = x.tx.toNat % 256 := by
  show (lo16 x.tx.toNat).toNat = _
  exact u8_lo _
theorem hd_pack2 (x : Fr) (t : List UInt8) : hd (packN x ++ t) 2 = 0 := rfl
theorem hd_pack3 (x : Fr) (t : List UInt8) : hd (packN x ++ t) 3 = 0 := rfl
theorem hd_pack4 (x : Fr) (t : List UInt8) (h : x.pdu.length < 65535) : hd (packN x ++ t) 4 = (x.pdu.length + 1) / 256 := by
  show (hi16 _).toNat = _
  exact u8_hi (by omega)
theorem hd_pack5 (x : Fr) (t : List UInt8) : hd (packN x ++ t) 5 = (x.pdu.length + 1) % 256 := by
  show (lo16 _).toNat = _
  exact u8_lo _
theorem lenN_pack (x : Fr) (t : List UInt8) (h : x.pdu.length < 65535) : lenN (packN x ++ t) = x.pdu.length + 1 := by
  unfold lenN; rw [hd_pack4 x t h, hd_pack5]; omega
theorem begun_pack {x : Fr} (h : Right x) (t : List UInt8) : begunB (packN x ++ t) = true := by
  have h1 := h.1; have h2 := h.2
  rw [begun_iff, hd_pack2, hd_pack3, hd_pack4 x t (by omega), hd_pack5]
  omega
theorem txN_pack (x : Fr) (t : List UInt8) : txN (packN x ++ t) = x.tx := by
  have := x.tx.toNat_lt
  unfold txN
  rw [hd_pack0, hd_pack1]
  apply UInt16.toNat_inj.1
  simp
  omega
theorem first_pack {x : Fr} (h : Right x) (t : List UInt8) : first (packN x ++ t) = some (x, t) := by
  have h1 := h.1; have h2 := h.2
  unfold first
  have hL := lenN_pack x t (by omega)
  rw [if_pos ⟨by rw [List.length_append, packN_length]; omega, begun_pack h t, by rw [hL, List.length_append, packN_length]; omega⟩, hL, txN_pack]
  have e1 : 6 + (x.pdu.length + 1) = (packN x).length := by rw [packN_length]; omega
  rw [e1, List.take_left, List.drop_left]
  rfl
theorem hd_of {b : List UInt8} {i : Nat} (h : i < b.length) : b[i]? = some (b.getD i 0) := by
  rw [List.getElem?_eq_getElem h]; simp [List.getD, List.getElem?_eq_getElem h]
theorem eight {b : List UInt8} (h : 7 ≤ b.length) : b = [b.getD 0 0, b.getD 1 0, b.getD 2 0, b.getD 3 0, b.getD 4 0, b.getD 5 0, b.getD 6 0] ++ b.drop 7 := by
  match b, h with
  | c0 :: c1 :: c2 :: c3 :: c4 :: c5 :: c6 :: r, _ => rfl
theorem of_toNat8 {c : UInt8} {n : Nat} (h : c.toNat = n) : c = UInt8.ofNat n := by subst h; simp
theorem first_some {b : List UInt8} {x : Fr} {r : List UInt8} (h : first b = some (x, r)) : Right x ∧ b = packN x ++ r := by
  unfold first at h
  split at h
  · next hc =>
    obtain ⟨h7, hb, hl⟩ := hc
    injection h with h
    injection h with hx hr
    obtain ⟨h2, h3, h4, h5, h6⟩ := (begun_iff b).1 hb
    have hL : lenN b = hd b 5 := by unfold lenN; rw [h4]; omega
    have hp : x.pdu.length = hd b 5 - 1 := by
      rw [← hx]; simp only [List.length_drop, List.length_take]; omega
    have hR : Right x := ⟨by omega, by omega⟩
    refine ⟨hR, ?_⟩
    have e0 : b.getD 0 0 = hi16 x.tx.toNat := by
      have ht : x.tx.toNat = hd b 0 * 256 + hd b 1 := by
        rw [← hx]; have := hd_lt b 0; have := hd_lt b 1; simp [txN]; omega
      have := hd_lt b 1
      have h0 := hd_getD (b := b) (i := 0) (by omega)
      unfold hi16; rw [ht]
      refine of_toNat8 ?_
      omega
    have e1 : b.getD 1 0 = lo16 x.tx.toNat := by
      have ht : x.tx.toNat = hd b 0 * 256 + hd b 1 := by
        rw [← hx]; have := hd_lt b 0; have := hd_lt b 1; simp [txN]; omega
      have := hd_lt b 1
      have h0 := hd_getD (b := b) (i := 1) (by omega)
      unfold lo16; rw [ht]
      refine of_toNat8 ?_
      omega
    have e2 : b.getD 2 0 = 0 := of_toNat8 ((hd_getD (by omega)).symm.trans h2)
    have e3 : b.getD 3 0 = 0 := of_toNat8 ((hd_getD (by omega)).symm.trans h3)
    have e4 : b.getD 4 0 = hi16 (x.pdu.length + 1) := by
      have h0 := hd_getD (b := b) (i := 4) (by omega)
      unfold hi16
      refine of_toNat8 ?_
      omega
    have e5 : b.getD 5 0 = lo16 (x.pdu.length + 1) := by
      have h0 := hd_getD (b := b) (i := 5) (by omega)
      unfold lo16
      refine of_toNat8 ?_
      omega
    have e6 : b.getD 6 0 = x.unit := by rw [← hx]
    have e7 : b.drop 7 = x.pdu ++ r := by
      rw [← hx, ← hr]
      have h8 := List.take_append_drop (6 + lenN b - 7) (b.drop 7)
      rw [List.drop_drop, List.take_drop] at h8
      rw [show 7 + (6 + lenN b - 7) = 6 + lenN b by omega] at h8
      exact h8.symm
    have h8 := eight h7
    rw [e0, e1, e2, e3, e4, e5, e6, e7] at h8
    rw [h8]
    unfold packN
    simp
  · cases h
theorem pack_inj {x y : Fr} {s t : List UInt8} (hx : Right x) (hy : Right y) (h : packN x ++ s = packN y ++ t) : x = y ∧ s = t := by
  have h1 := first_pack hx s
  rw [h, first_pack hy t] at h1
  injection h1 with h1
  injection h1 with h1 h2
  exact ⟨h1.symm, h2.symm⟩

/-- The frames that bytes begin with, one behind the other, and what is left. -/
inductive Cuts : List UInt8 → List Fr → List UInt8 → Prop
  | done {b : List UInt8} : first b = none → Cuts b [] b
  | more {b r s : List UInt8} {x : Fr} {l : List Fr} : first b = some (x, r) → Cuts r l s → Cuts b (x :: l) s
def flat (l : List Fr) : List UInt8 := l.flatMap packN
theorem flat_cons (x : Fr) (l : List Fr) : flat (x :: l) = packN x ++ flat l := rfl
theorem flat_append (l m : List Fr) : flat (l ++ m) = flat l ++ flat m := by simp [flat]
theorem cuts_iff {b : List UInt8} {l : List Fr} {s : List UInt8} : Cuts b l s ↔ b = flat l ++ s ∧ (∀ x ∈ l, Right x) ∧ first s = none := by
  constructor
  · intro h
    induction h with
    | done h => exact ⟨rfl, by simp, h⟩
    | more h _ ih =>
      obtain ⟨h1, h2, h3⟩ := ih
      obtain ⟨h4, h5⟩ := first_some h
      refine ⟨by rw [h5, h1, flat_cons, List.append_assoc], ?_, h3⟩
      intro y hy
      rcases List.mem_cons.1 hy with rfl | hy
      · exact h4
      · exact h2 y hy
  · rintro ⟨rfl, h2, h3⟩
    induction l with
    | nil => exact .done h3
    | cons x l ih =>
      rw [flat_cons, List.append_assoc]
      exact .more (first_pack (h2 x List.mem_cons_self) _) (ih (fun y hy => h2 y (List.mem_cons_of_mem _ hy)))
theorem cuts_all (b : List UInt8) : ∃ l s, Cuts b l s := by
  generalize hn : b.length = n
  induction n using Nat.strongRecOn generalizing b with
  | ind n ih =>
    cases h : first b with
    | none => exact ⟨[], b, .done h⟩
    | some p =>
      obtain ⟨x, r⟩ := p
      obtain ⟨_, h2⟩ := first_some h
      have hl : r.length < n := by rw [← hn, h2, List.length_append, packN_length]; omega
      obtain ⟨l, s, hc⟩ := ih _ hl r rfl
      exact ⟨x :: l, s, .more h hc⟩
theorem cuts_det {b : List UInt8} {l l' : List Fr} {s s' : List UInt8} (h : Cuts b l s) (h' : Cuts b l' s') : l = l' ∧ s = s' := by
  induction h generalizing l' s' with
  | done h =>
    cases h' with
    | done _ => exact ⟨rfl, rfl⟩
    | more h2 _ => rw [h] at h2; cases h2
  | more h _ ih =>
    cases h' with
    | done h2 => rw [h] at h2; cases h2
    | more h2 h3 =>
      rw [h] at h2
      injection h2 with h2
      injection h2 with h4 h5
      subst h4 h5
      obtain ⟨rfl, rfl⟩ := ih h3
      exact ⟨rfl, rfl⟩
/-- Frames that are put one behind the other, and more bytes: they are told, and more. -/
theorem cuts_flat {l : List Fr} (hl : ∀ x ∈ l, Right x) {t : List UInt8} {m : List Fr} {s : List UInt8} (h : Cuts (flat l ++ t) m s) : ∃ k, m = l ++ k ∧ Cuts t k s := by
  obtain ⟨k, s', hk⟩ := cuts_all t
  obtain ⟨h1, h2, h3⟩ := cuts_iff.1 hk
  have h4 : Cuts (flat l ++ t) (l ++ k) s' := cuts_iff.2 ⟨by rw [flat_append, List.append_assoc, ← h1], fun x hx => by
    rcases List.mem_append.1 hx with h | h
    · exact hl x h
    · exact h2 x h, h3⟩
  obtain ⟨rfl, rfl⟩ := cuts_det h h4
  exact ⟨k, rfl, hk⟩
theorem cuts_suffix {b : List UInt8} {l : List Fr} {s : List UInt8} (h : Cuts b l s) : s.length ≤ b.length := by
  obtain ⟨h1, _, _⟩ := cuts_iff.1 h
  rw [h1, List.length_append]; omega
theorem not_begun_first {b : List UInt8} (h : begunB b = false) : first b = none := by
  unfold first; rw [if_neg]; rintro ⟨_, h2, _⟩; rw [h] at h2; cases h2

/-- A first part of bytes that are begunB is begun. -/
theorem begun_part {b t : List UInt8} (h : begunB (b ++ t) = true) : begunB b = true := by
  obtain ⟨h2, h3, h4, h5, h6⟩ := (begun_iff _).1 h
  refine (begun_iff b).2 ?_
  have g : ∀ i, (i < b.length → hd b i = hd (b ++ t) i) ∧ (b.length ≤ i → hd b i = if i = 5 then 2 else 0) := fun i => ⟨fun hi => (hd_append hi).symm, fun hi => by unfold hd; rw [List.getElem?_eq_none hi]⟩
  have k : ∀ i, i ≠ 5 → hd (b ++ t) i = 0 → hd b i = 0 := fun i hi h0 => by
    rcases Nat.lt_or_ge i b.length with h | h
    · rw [(g i).1 h, h0]
    · rw [(g i).2 h, if_neg hi]
  refine ⟨k 2 (by decide) h2, k 3 (by decide) h3, k 4 (by decide) h4, ?_⟩
  rcases Nat.lt_or_ge 5 b.length with h | h
  · rw [(g 5).1 h]; exact ⟨h5, h6⟩
  · rw [(g 5).2 h]; simp
theorem begun_nil : begunB [] = true := by decide
/-- A first part of a stream of right frames: what is left of it is begun. -/
theorem begun_stream {l : List Fr} (hl : ∀ x ∈ l, Right x) {b t : List UInt8} (h : b ++ t = flat l) : begunB b = true := by
  cases l with
  | nil =>
    have : b = [] := by simpa [flat] using (List.append_eq_nil_iff.1 h).1
    subst this; exact begun_nil
  | cons x l =>
    refine begun_part (t := t) ?_
    rw [h, flat_cons]
    exact begun_pack (hl x List.mem_cons_self) _
/-- A step of the stream: of what is left and the next part, a first part of right frames' bytes. -/
theorem stream_step {l : List Fr} (hl : ∀ x ∈ l, Right x) {b t : List UInt8} (h : b ++ t = flat l) {m : List Fr} {s : List UInt8} (hc : Cuts b m s) : begunB s = true ∧ ∃ k, l = m ++ k ∧ (∀ x ∈ k, Right x) ∧ s ++ t = flat k := by
  obtain ⟨h1, h2, h3⟩ := cuts_iff.1 hc
  have key : ∃ k, l = m ++ k ∧ (∀ x ∈ k, Right x) ∧ s ++ t = flat k := by
    obtain ⟨k, s', hk⟩ := cuts_all (s ++ t)
    obtain ⟨g1, g2, g3⟩ := cuts_iff.1 hk
    have hA : Cuts (b ++ t) (m ++ k) s' := cuts_iff.2 ⟨by rw [h1, flat_append, List.append_assoc, List.append_assoc, g1], fun x hx => by
      rcases List.mem_append.1 hx with h | h
      · exact h2 x h
      · exact g2 x h, g3⟩
    have hB : Cuts (b ++ t) l [] := cuts_iff.2 ⟨by rw [h, List.append_nil], hl, by simp [first]⟩
    obtain ⟨e1, e2⟩ := cuts_det hA hB
    subst e1 e2
    refine ⟨k, rfl, g2, by rw [g1, List.append_nil]⟩
  obtain ⟨k, hk1, hk2, hk3⟩ := key
  exact ⟨begun_stream hk2 hk3, k, hk1, hk2, hk3⟩
theorem stream_end {l : List Fr} (hl : ∀ x ∈ l, Right x) {s : List UInt8} (h : s = flat l) (hs : first s = none) : l = [] ∧ s = [] := by
  cases l with
  | nil => exact ⟨rfl, by simpa [flat] using h⟩
  | cons x l =>
    rw [h, flat_cons, first_pack (hl x List.mem_cons_self)] at hs
    cases hs
/-- Parse, plainly. -/
def parseN (b : List UInt8) : Option Fr := match first b with
  | some (x, []) => some x
  | _ => none
theorem parse_some {b : List UInt8} {x : Fr} (h : parseN b = some x) : Right x ∧ b = packN x := by
  unfold parseN at h
  split at h
  · next x' hf =>
    injection h with h
    subst h
    obtain ⟨h1, h2⟩ := first_some hf
    exact ⟨h1, by rw [h2, List.append_nil]⟩
  · cases h
theorem parse_pack {x : Fr} (h : Right x) : parseN (packN x) = some x := by
  unfold parseN
  have h1 := first_pack h []
  rw [List.append_nil] at h1
  rw [h1]
theorem parse_more {x : Fr} (h : Right x) {t : List UInt8} (ht : t ≠ []) : parseN (packN x ++ t) = none := by
  unfold parseN
  rw [first_pack h t]
  cases t with
  | nil => exact absurd rfl ht
  | cons _ _ => rfl
theorem parse_less {x : Fr} (h : Right x) : parseN ((packN x).take ((packN x).length - 1)) = none := by
  cases hp : parseN ((packN x).take ((packN x).length - 1)) with
  | none => rfl
  | some y =>
    obtain ⟨h1, h2⟩ := parse_some hp
    exfalso
    have hl : ((packN x).take ((packN x).length - 1)).length = (packN x).length - 1 := by rw [List.length_take]; omega
    have h3 := List.take_append_drop ((packN x).length - 1) (packN x)
    rw [h2] at h3
    have h4 := pack_inj (s := (packN x).drop ((packN x).length - 1)) (t := []) h1 h (by rw [List.append_nil]; exact h3)
    have h5 := congrArg List.length h4.2
    rw [List.length_drop] at h5
    have := packN_length x
    simp at h5
    omega
end Go.Proofs.Yteekdginloljjaa.MbM
