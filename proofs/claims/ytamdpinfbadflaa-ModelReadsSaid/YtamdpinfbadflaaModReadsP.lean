/- ModReadsP: what was ModReadsP, ModWritesP, ModWholeP. -/
import Derived.Test.YtamdpinfbadflaaModP
import Derived.Test.YtamdpinfbadflaaModLawServes
/- What reads: plain facts. -/
namespace Go.Proofs.Ytamdpinfbadflaa.ModM
open AskM ReplyM ReplyW ModW
theorem readable_sub {es : List Ar} {at_ n d k : Nat} (h : readableN es at_ n = true) (hd : d + k ≤ n) : readableN es (at_ + d) k = true := by
  unfold readableN ownersN
  simp only [Bool.not_eq_true', List.any_eq_false, List.mem_map, List.mem_range]
  rintro x ⟨j, hj, rfl⟩
  have h1 := readable_at h (k := d + j) (by omega)
  unfold readsA
  rw [Nat.add_assoc, h1]
  simp
theorem right_len {len : Nat} : ∀ {es : List Ar} {e : Int}, rightFrom len e es = true → len ≤ 65536 := by
  intro es
  induction es with
  | nil => intro e h; unfold rightFrom at h; simpa using h
  | cons x r ih =>
    intro e h
    unfold rightFrom at h
    split at h
    · cases h
    · exact ih h
theorem bw_read {f : UInt8} (hf : f.toNat = 1 ∨ f.toNat = 2 ∨ f.toNat = 3 ∨ f.toNat = 4) : bwN f.toNat = none ∧ wwN f.toNat = none := by
  rcases hf with h | h | h | h <;> rw [h] <;> exact ⟨rfl, rfl⟩
theorem write_read {f : UInt8} (hf : f.toNat = 1 ∨ f.toNat = 2 ∨ f.toNat = 3 ∨ f.toNat = 4) (m : Me) (at_ many : UInt16) : writeM m ⟨f, at_, many, 0, [], []⟩ = m := by
  obtain ⟨h1, h2⟩ := bw_read hf
  unfold writeM
  simp only [h1, h2]
  rfl
theorem reads_keep {f : UInt8} (hf : f.toNat = 1 ∨ f.toNat = 2 ∨ f.toNat = 3 ∨ f.toNat = 4) (s : Sp) (m : Me) (at_ many : UInt16) : (doN s m ⟨f, at_, many, 0, [], []⟩).1 = m := by
  unfold doN
  split
  · rfl
  · split
    · rfl
    · exact write_read hf m at_ many
theorem do_zero {s : Sp} {m : Me} {a : Req} (h : (doN s m a).2.ex = 0) : checkN s a = 0 ∧ mrightN s m = true := by
  unfold doN at h
  have hc := check_le s a
  by_cases h0 : checkN s a ≠ 0
  · rw [if_pos h0] at h
    have h2 : (UInt8.ofNat (checkN s a)).toNat = checkN s a := by simp; omega
    have h3 : UInt8.ofNat (checkN s a) = 0 := h
    rw [h3] at h2
    exact absurd h2.symm h0
  · rw [if_neg h0] at h
    by_cases hr : mrightN s m = false
    · rw [if_pos hr] at h
      have h3 : (4 : UInt8) = 0 := h
      exact absurd h3 (by decide)
    · exact ⟨by omega, by simpa using hr⟩
theorem answer_read {f : UInt8} (hf : f.toNat = 1 ∨ f.toNat = 2 ∨ f.toNat = 3 ∨ f.toNat = 4) (m : Me) (at_ many : UInt16) :
    answerM m ⟨f, at_, many, 0, [], []⟩ = ⟨f, 0, readB m (brN f.toNat) at_.toNat many.toNat, readW m (wrN f.toNat) at_.toNat many.toNat, 0, 0⟩ := by
  have h : echoN ⟨f, at_, many, 0, [], []⟩ = none := by
    unfold echoN
    split
    · rfl
    · show (if f.toNat = 5 then _ else if f.toNat = 6 then _ else if f.toNat = 15 ∨ f.toNat = 16 then _ else none) = none
      rw [if_neg (by omega), if_neg (by omega), if_neg (by omega)]
  unfold answerM
  rw [h]
theorem do_read {f : UInt8} (hf : f.toNat = 1 ∨ f.toNat = 2 ∨ f.toNat = 3 ∨ f.toNat = 4) {s : Sp} {m : Me} {at_ many : UInt16} (hc : checkN s ⟨f, at_, many, 0, [], []⟩ = 0) (hr : mrightN s m = true) :
    doN s m ⟨f, at_, many, 0, [], []⟩ = (m, ⟨f, 0, readB m (brN f.toNat) at_.toNat many.toNat, readW m (wrN f.toNat) at_.toNat many.toNat, 0, 0⟩) := by
  rw [do_right hr, if_neg (by omega), write_read hf, answer_read hf]
theorem right_less {f : UInt8} (hf : f.toNat = 1 ∨ f.toNat = 2 ∨ f.toNat = 3 ∨ f.toNat = 4) {at_ at2 many k : UInt16} (h : rightN ⟨f, at_, many, 0, [], []⟩ = true) (h1 : 1 ≤ k.toNat) (h2 : k.toNat ≤ many.toNat) : rightN ⟨f, at2, k, 0, [], []⟩ = true := by
  obtain ⟨F, hrow, hfit⟩ := right_row h
  obtain ⟨a1, a2, -⟩ := fit_facts hfit
  have hrow2 : rowN f.toNat = some F := hrow
  unfold rightN
  simp only [hrow2]
  rcases rowN_cases hrow2 with ⟨hc, rfl⟩ | ⟨hc, rfl⟩ | ⟨hc, rfl⟩ | ⟨hc, rfl⟩ | ⟨hc, rfl⟩ | ⟨hc, rfl⟩ | ⟨hc, rfl⟩ <;> simp only at a1 a2 <;> first | omega | (simp [fitN, within, listed]; omega)
theorem check_part {f : UInt8} (hf : f.toNat = 1 ∨ f.toNat = 2 ∨ f.toNat = 3 ∨ f.toNat = 4) {s : Sp} {at_ at2 many k : UInt16} {d : Nat} (hc : checkN s ⟨f, at_, many, 0, [], []⟩ = 0) (h1 : 1 ≤ k.toNat) (h2 : d + k.toNat ≤ many.toNat) (h3 : at2.toNat = at_.toNat + d) : checkN s ⟨f, at2, k, 0, [], []⟩ = 0 := by
  obtain ⟨hr, ha⟩ := check_zero hc
  obtain ⟨p1, p2, -, -⟩ := allow_parts ha
  obtain ⟨q1, q2⟩ := bw_read hf
  have hR := right_less hf (at2 := at2) hr h1 (by omega)
  have hm : ∀ o, mayR s o at_.toNat many.toNat = true → mayR s o at2.toNat k.toNat = true := fun o ho => by
    cases o with
    | none => rfl
    | some j => rw [h3]; exact readable_sub ho h2
  unfold checkN
  rw [if_neg (by rw [hR]; simp)]
  have hA : allowsN s ⟨f, at2, k, 0, [], []⟩ = true := by
    unfold allowsN
    show (mayR s (brN f.toNat) at2.toNat k.toNat && mayR s (wrN f.toNat) at2.toNat k.toNat && mayW s (bwN f.toNat) _ _ && mayW s (wwN f.toNat) _ _) = true
    rw [hm _ p1, hm _ p2, q1, q2]
    rfl
  rw [if_neg (by rw [hA]; simp)]
theorem cut_two {α : Type} (l : List α) (at_ k j : Nat) : (l.drop at_).take k ++ (l.drop (at_ + k)).take j = (l.drop at_).take (k + j) := by
  rw [List.take_add, List.drop_drop]
theorem reads_facts {f : UInt8} (hf : f.toNat = 1 ∨ f.toNat = 2 ∨ f.toNat = 3 ∨ f.toNat = 4) {s : Sp} {m : Me} {at_ many k k2 at2 : UInt16} (h0 : (doN s m ⟨f, at_, many, 0, [], []⟩).2.ex = 0) (hm : 2 ≤ many.toNat) (hk : k.toNat = many.toNat / 2) (hk2 : k2.toNat = many.toNat - many.toNat / 2) (ha : at2.toNat = (at_.toNat + many.toNat / 2) % 65536) :
    (doN s m ⟨f, at_, k, 0, [], []⟩).2.ex = 0 ∧ (doN s m ⟨f, at2, k2, 0, [], []⟩).2.ex = 0 ∧
    (2 < f.toNat → (doN s m ⟨f, at_, k, 0, [], []⟩).2.words ++ (doN s m ⟨f, at2, k2, 0, [], []⟩).2.words = (doN s m ⟨f, at_, many, 0, [], []⟩).2.words) ∧
    (f.toNat ≤ 2 → k.toNat ≤ (doN s m ⟨f, at_, k, 0, [], []⟩).2.bits.length ∧ k2.toNat ≤ (doN s m ⟨f, at2, k2, 0, [], []⟩).2.bits.length ∧ many.toNat ≤ (doN s m ⟨f, at_, many, 0, [], []⟩).2.bits.length ∧
      (doN s m ⟨f, at_, k, 0, [], []⟩).2.bits.take k.toNat ++ (doN s m ⟨f, at2, k2, 0, [], []⟩).2.bits.take k2.toNat = (doN s m ⟨f, at_, many, 0, [], []⟩).2.bits.take many.toNat) := by
  obtain ⟨hc, hr⟩ := do_zero h0
  have hF := rfits_of hc hr
  rw [write_read hf] at hF
  obtain ⟨r1, r2, r3, r4⟩ := mright_parts hr
  have l1 := right_len r1
  have l2 := right_len r2
  have l3 := right_len r3
  have l4 := right_len r4
  have hB : ∀ j, brN f.toNat = some j → at_.toNat + many.toNat ≤ (m.bits j).length := fun j hj => (hF.bits j hj).2
  have hW : ∀ j, wrN f.toNat = some j → at_.toNat + many.toNat ≤ (m.regs j).length := fun j hj => (hF.regs j hj).2
  have hlB : ∀ j, (m.bits j).length ≤ 65536 := fun j => by unfold Me.bits; split <;> assumption
  have hlW : ∀ j, (m.regs j).length ≤ 65536 := fun j => by unfold Me.regs; split <;> assumption
  have hin : at_.toNat + many.toNat ≤ 65536 := by
    rcases hf with h | h | h | h
    · exact Nat.le_trans (hB 0 (by rw [h]; rfl)) (hlB 0)
    · exact Nat.le_trans (hB 1 (by rw [h]; rfl)) (hlB 1)
    · exact Nat.le_trans (hW 2 (by rw [h]; rfl)) (hlW 2)
    · exact Nat.le_trans (hW 3 (by rw [h]; rfl)) (hlW 3)
  have ha2 : at2.toNat = at_.toNat + many.toNat / 2 := by rw [ha, Nat.mod_eq_of_lt (by omega)]
  have c1 := check_part hf (at2 := at_) (k := k) (d := 0) hc (by omega) (by omega) (by omega)
  have c2 := check_part hf (at2 := at2) (k := k2) (d := many.toNat / 2) hc (by omega) (by omega) ha2
  rw [do_read hf hc hr, do_read hf c1 hr, do_read hf c2 hr]
  refine ⟨rfl, rfl, fun h => ?_, fun h => ?_⟩
  · obtain ⟨j, hj⟩ : ∃ j, wrN f.toNat = some j := by
      rcases hf with h | h | h | h
      · omega
      · omega
      · exact ⟨2, by rw [h]; rfl⟩
      · exact ⟨3, by rw [h]; rfl⟩
    simp only [hj, readW]
    rw [ha2, hk, hk2, cut_two]
    congr 1
    omega
  · obtain ⟨j, hj⟩ : ∃ j, brN f.toNat = some j := by
      rcases hf with h | h | h | h
      · exact ⟨0, by rw [h]; rfl⟩
      · exact ⟨1, by rw [h]; rfl⟩
      · omega
      · omega
    have hb := hB j hj
    simp only [hj, readB]
    have hp : ∀ (L : List Bool) (n : Nat), L.length = n → n ≤ (padN L).length ∧ (padN L).take n = L := fun L n hn => by
      unfold padN
      refine ⟨by simp; omega, ?_⟩
      rw [← hn, List.take_append_of_le_length (Nat.le_refl _), List.take_length]
    have p1 := hp (((m.bits j).drop at_.toNat).take k.toNat) k.toNat (by simp; omega)
    have p2 := hp (((m.bits j).drop at2.toNat).take k2.toNat) k2.toNat (by simp; omega)
    have p3 := hp (((m.bits j).drop at_.toNat).take many.toNat) many.toNat (by simp; omega)
    refine ⟨p1.1, p2.1, p3.1, ?_⟩
    rw [p1.2, p2.2, p3.2, ha2, hk, hk2, cut_two]
    congr 1
    omega
end Go.Proofs.Ytamdpinfbadflaa.ModM
/- What is written is read so: plain facts. -/
namespace Go.Proofs.Ytamdpinfbadflaa.ModM
open AskM ReplyM ReplyW ModW
theorem filled_pad {l : List Bool} {n : Nat} (h : l.length = n) : filledN (padN l) n = true := by
  unfold filledN padN
  have h1 : (l ++ List.replicate ((l.length + 7) / 8 * 8 - l.length) false).length = (n + 7) / 8 * 8 := by simp; omega
  have h2 : anyOn ((l ++ List.replicate ((l.length + 7) / 8 * 8 - l.length) false).drop n) = false := by
    rw [← h, List.drop_left]
    unfold anyOn
    simp
  rw [decide_eq_true h1, h2]
  rfl
theorem answer_fits {s : Sp} {m : Me} {a : Req} (hc : checkN s a = 0) (hr : mrightN s m = true) : fitsN a (answerM (writeM m a) a) = true := by
  obtain ⟨hra, -⟩ := check_zero hc
  have hR := answer_right hc hr
  have hF := rfits_of hc hr
  generalize writeM m a = M at *
  unfold answerM at hR ⊢
  cases he : echoN a with
  | some q =>
    have hx := (echo_right hra he).2.2.2
    show fitsN a q = true
    rw [fits_echo hra he (by rw [hx]; rfl)]
    simp
  | none =>
    rw [he] at hR
    have hne : ¬ (a.fn.toNat = 5 ∨ a.fn.toNat = 6 ∨ a.fn.toNat = 15 ∨ a.fn.toNat = 16) := fun h => by
      obtain ⟨q, hq⟩ := (echo_writes hra).2 h
      rw [he] at hq; cases hq
    show fitsN a ⟨a.fn, 0, (readB M (brN a.fn.toNat) a.at_.toNat a.many.toNat), (readW M (wrN a.fn.toNat) a.at_.toNat a.many.toNat), 0, 0⟩ = true
    have hR : rrightN ⟨a.fn, 0, (readB M (brN a.fn.toNat) a.at_.toNat a.many.toNat), (readW M (wrN a.fn.toNat) a.at_.toNat a.many.toNat), 0, 0⟩ = true := hR
    unfold fitsN
    rcases right_fn hra with h | h | h
    · rw [if_pos h]
      unfold fitsBits
      rw [hra, hR]
      obtain ⟨j, hj⟩ : ∃ j, brN a.fn.toNat = some j := by
        rcases h with h | h
        · exact ⟨0, by rw [h]; rfl⟩
        · exact ⟨1, by rw [h]; rfl⟩
      have hb := (hF.bits j hj).2
      have : filledN (readB M (brN a.fn.toNat) a.at_.toNat a.many.toNat) a.many.toNat = true := by
        rw [hj]
        exact filled_pad (by simp; omega)
      simp [this]
    · rw [if_neg (by omega), if_pos h]
      unfold fitsWords
      rw [hra, hR]
      obtain ⟨j, hj⟩ : ∃ j, wrN a.fn.toNat = some j := by
        rcases h with h | h | h
        · exact ⟨2, by rw [h]; rfl⟩
        · exact ⟨3, by rw [h]; rfl⟩
        · exact ⟨2, by rw [h]; rfl⟩
      have hb := (hF.regs j hj).2
      have : (readW M (wrN a.fn.toNat) a.at_.toNat a.many.toNat).length = a.many.toNat := by
        rw [hj]
        show (((M.regs j).drop a.at_.toNat).take a.many.toNat).length = _
        simp; omega
      simp [this]
    · exact absurd h hne
theorem over_get {α : Type} (l : List α) (t : Nat) (v : List α) (h : t + v.length ≤ l.length) (i : Nat) : (overN l t v)[i]? = if t ≤ i ∧ i - t < v.length then v[i - t]? else l[i]? := by
  unfold overN
  by_cases h1 : i < t
  · rw [if_neg (by omega), List.append_assoc, List.getElem?_append_left (by simp; omega), List.getElem?_take_of_lt h1]
  · by_cases h2 : i - t < v.length
    · rw [if_pos ⟨by omega, h2⟩, List.append_assoc, List.getElem?_append_right (by simp; omega), List.length_take, Nat.min_eq_left (by omega), List.getElem?_append_left h2]
    · rw [if_neg (by omega), List.append_assoc, List.getElem?_append_right (by simp; omega), List.length_take, Nat.min_eq_left (by omega), List.getElem?_append_right (by omega), List.getElem?_drop]
      congr 1
      omega
/-- What a right request does not write it has none of. -/
theorem right_none {a : Req} (h : rightN a = true) : ((bwN a.fn.toNat).isSome = false → a.bits = []) ∧ ((wwN a.fn.toNat).isSome = false → a.words = []) := by
  obtain ⟨F, hF, hfit⟩ := right_row h
  obtain ⟨h1, h2, h3, h4, h5, h6, _⟩ := fit_facts hfit
  rcases rowN_cases hF with ⟨hc, rfl⟩ | ⟨hc, rfl⟩ | ⟨hc, rfl⟩ | ⟨hc, rfl⟩ | ⟨hc, rfl⟩ | ⟨hc, rfl⟩ | ⟨hc, rfl⟩ <;> simp only at h1 h2 h3 h4 h5 h6
  all_goals
    first
      | (rcases hc with hc | hc <;> rw [hc] <;> refine ⟨?_, ?_⟩ <;> intro hh <;> first | (exfalso; revert hh; decide) | exact List.eq_nil_of_length_eq_zero (by omega))
      | (rw [hc]; refine ⟨?_, ?_⟩ <;> intro hh <;> first | (exfalso; revert hh; decide) | exact List.eq_nil_of_length_eq_zero (by omega))
theorem writes_no {s : Sp} {m n : Me} {a : Req} {r : Rep} (h : doN s m a = (n, r)) (hx : r.ex ≠ 0) : n = m ∧ (checkN s a = r.ex.toNat ∨ checkN s a = 0 ∧ r.ex.toNat = 4 ∧ mrightN s m = false) := by
  have hc := check_le s a
  unfold doN at h
  by_cases h0 : checkN s a ≠ 0
  · rw [if_pos h0] at h
    injection h with h1 h2
    subst h1 h2
    refine ⟨rfl, .inl ?_⟩
    show _ = (UInt8.ofNat (checkN s a)).toNat
    simp; omega
  · rw [if_neg h0] at h
    by_cases hr : mrightN s m = false
    · rw [if_pos hr] at h
      injection h with h1 h2
      subst h1 h2
      exact ⟨rfl, .inr ⟨by omega, rfl, hr⟩⟩
    · rw [if_neg hr] at h
      injection h with h1 h2
      subst h2
      exact absurd (answer_ex _ _) hx
structure Wrote (s : Sp) (m n : Me) (a : Req) (r : Rep) : Prop where
  check : checkN s a = 0
  right : mrightN s n = true
  fits : fitsN a r = true
  lh : n.holding.length = m.holding.length
  lc : n.coils.length = m.coils.length
  inputs : n.inputs = m.inputs
  words : n.words = m.words
  hold : ∀ i, n.holding[i]? = if targetN a ≤ i ∧ i - targetN a < a.words.length then a.words[i - targetN a]? else m.holding[i]?
  coil : ∀ i, n.coils[i]? = if targetN a ≤ i ∧ i - targetN a < a.bits.length then a.bits[i - targetN a]? else m.coils[i]?
  inw : 0 < a.words.length → targetN a + a.words.length ≤ n.holding.length
  inb : 0 < a.bits.length → targetN a + a.bits.length ≤ n.coils.length
theorem writes_yes {s : Sp} {m n : Me} {a : Req} {r : Rep} (h : doN s m a = (n, r)) (hx : r.ex = 0) : Wrote s m n a r := by
  have h0 := do_zero (s := s) (m := m) (a := a) (by rw [h]; exact hx)
  obtain ⟨hc, hr⟩ := h0
  rw [do_right hr, if_neg (by omega)] at h
  injection h with h1 h2
  subst h1 h2
  have hW := wfits_of hc hr
  obtain ⟨l1, l2, l3, l4⟩ := write_lens hW
  obtain ⟨n1, n2⟩ := right_none (check_zero hc).1
  have hwo : ∀ (l : List UInt16) (i t : Nat), (if t ≤ i ∧ i - t < ([] : List UInt16).length then ([] : List UInt16)[i - t]? else l[i]?) = l[i]? := fun l i t => by rw [if_neg (by simp)]
  have hbo : ∀ (l : List Bool) (i t : Nat), (if t ≤ i ∧ i - t < ([] : List Bool).length then ([] : List Bool)[i - t]? else l[i]?) = l[i]? := fun l i t => by rw [if_neg (by simp)]
  refine ⟨hc, mright_write hc hr, answer_fits hc hr, l3, l1, l2, l4, fun i => ?_, fun i => ?_, fun hl => ?_, fun hl => ?_⟩
  · show (if (wwN a.fn.toNat).isSome then overN m.holding (targetN a) a.words else m.holding)[i]? = _
    by_cases e : (wwN a.fn.toNat).isSome = true
    · rw [if_pos e]
      exact over_get _ _ _ (hW.words e).2 i
    · rw [if_neg e, n2 (by simpa using e), hwo]
  · show (if (bwN a.fn.toNat).isSome then overN m.coils (targetN a) a.bits else m.coils)[i]? = _
    by_cases e : (bwN a.fn.toNat).isSome = true
    · rw [if_pos e]
      exact over_get _ _ _ (hW.bits e).2 i
    · rw [if_neg e, n1 (by simpa using e), hbo]
  · by_cases e : (wwN a.fn.toNat).isSome = true
    · rw [l3]; exact (hW.words e).2
    · rw [n2 (by simpa using e)] at hl; simp at hl
  · by_cases e : (bwN a.fn.toNat).isSome = true
    · rw [l1]; exact (hW.bits e).2
    · rw [n1 (by simpa using e)] at hl; simp at hl
end Go.Proofs.Ytamdpinfbadflaa.ModM
/- An area that is written as a whole: plain facts. -/
namespace Go.Proofs.Ytamdpinfbadflaa.ModM
open AskM ReplyM ReplyW ModW
def areaW (x y : Nat) (wr wh : Bool) : Ar := ⟨(x : Int), (y : Int), true, wr, wh⟩
def spaceW (x y : Nat) (wr wh : Bool) : Sp := ⟨[], [], [areaW x y wr wh], []⟩
def memW (n : Nat) : Me := ⟨[], [], List.replicate n 0, []⟩
/-- Numbers from 1 on. -/
def upN (c : Nat) : List UInt16 := (List.range c).map fun i => UInt16.ofNat (i + 1)
theorem up_len (c : Nat) : (upN c).length = c := by simp [upN]
theorem up_at {c i : Nat} (h : i < c) : (upN c)[i]? = some (UInt16.ofNat (i + 1)) := by simp [upN, h]
theorem up_one {c : Nat} (h : 1 ≤ c) : (upN c).take 1 = [1] := by
  obtain ⟨c, rfl⟩ : ∃ d, c = d + 1 := ⟨c - 1, by omega⟩
  simp [upN, List.range_succ_eq_map]
theorem whole_right {x y n : Nat} (wr wh : Bool) (hy : 1 ≤ y) (hxy : x + y ≤ n) (hn : n ≤ 65536) : mrightN (spaceW x y wr wh) (memW n) = true := by
  unfold mrightN spaceW memW areaW
  simp [rightFrom]
  omega
theorem own_one (x y : Nat) (wr wh : Bool) (i : Nat) : ownN [areaW x y wr wh] (i : Int) = if x ≤ i ∧ i < x + y then areaW x y wr wh else zeroA := by
  unfold ownN
  simp only [List.find?_cons, List.find?_nil]
  have h : hasN (areaW x y wr wh) (i : Int) = decide (x ≤ i ∧ i < x + y) := by
    unfold hasN areaW
    rw [Bool.eq_iff_iff]
    simp
    omega
  rw [h]
  by_cases hc : x ≤ i ∧ i < x + y
  · simp [hc]
  · simp [hc]
/-- Where the one area may be written. -/
theorem writable_one {x y k c : Nat} (wr wh : Bool) (hc : 1 ≤ c) : writableN [areaW x y wr wh] k c = (wr && decide (x ≤ k) && decide (k + c ≤ x + y) && (!wh || decide (k = x) && decide (c = y))) := by
  unfold writableN ownersN
  rw [Bool.eq_iff_iff]
  simp only [Bool.not_eq_true', List.any_eq_false, List.mem_map, List.mem_range, Bool.and_eq_true, Bool.or_eq_true, decide_eq_true_eq]
  have hw : ∀ j, ¬ (writesA (k : Int) (c : Int) (ownN [areaW x y wr wh] ((k + j : Nat) : Int)) = true) ↔ (x ≤ k + j ∧ k + j < x + y ∧ wr = true ∧ (wh = false ∨ (k = x ∧ c = y))) := fun j => by
    rw [own_one]
    by_cases hin : x ≤ k + j ∧ k + j < x + y
    · rw [if_pos hin]
      unfold writesA areaW
      cases wr <;> cases wh <;> simp [hin.1, hin.2]
      omega
    · rw [if_neg hin]
      unfold writesA zeroA
      simp
      intro h1 h2
      exact absurd ⟨h1, h2⟩ hin
  constructor
  · intro h
    have h0 := (hw 0).1 (h _ ⟨0, by omega, rfl⟩)
    have h1 := (hw (c - 1)).1 (h _ ⟨c - 1, by omega, rfl⟩)
    refine ⟨⟨⟨h0.2.2.1, by omega⟩, by omega⟩, ?_⟩
    rcases h0.2.2.2 with h2 | h2
    · exact .inl h2
    · exact .inr h2
  · rintro ⟨⟨⟨h1, h2⟩, h3⟩, h4⟩ z ⟨j, hj, rfl⟩
    refine (hw j).2 ⟨by omega, by omega, h1, ?_⟩
    rcases h4 with h4 | h4
    · exact .inl h4
    · exact .inr h4
theorem check16 {s : Sp} {k c : UInt16} {l : List UInt16} (hc : c.toNat = l.length) (h1 : 1 ≤ l.length) (h2 : l.length ≤ 20) : checkN s ⟨16, k, c, 0, l, []⟩ = if writableN s.holding k.toNat l.length = false then 2 else 0 := by
  unfold checkN
  rw [right16 _ _ _ hc h1 (by omega), allows16]
  simp
theorem check6 {s : Sp} {k : UInt16} : checkN s ⟨6, k, 0, 0, [1], []⟩ = if writableN s.holding k.toNat 1 = false then 2 else 0 := by
  have h1 : rightN ⟨6, k, 0, 0, [1], []⟩ = true := by
    have e : rightN ⟨6, k, 0, 0, [1], []⟩ = fitN ⟨0, 0, 1, false⟩ ⟨6, k, 0, 0, [1], []⟩ := rfl
    rw [e]
    unfold fitN within listed
    simp
  have h2 : allowsN s ⟨6, k, 0, 0, [1], []⟩ = writableN s.holding k.toNat 1 := by
    show (true && true && true && writableN s.holding k.toNat 1) = _
    simp
  unfold checkN
  rw [h1, h2]
  simp
/-- A request to write numbers from 1 on: done, and seen, just if it may be. -/
theorem whole_do {s : Sp} {n k : Nat} {a : Req} {l : List UInt16} (hw : (wwN a.fn.toNat).isSome = true) (ht : targetN a = k) (hl : a.words = l) (h0 : l[0]? = some 1) (hk : k + l.length ≤ n) {ok : Bool} (hc : checkN s a = if ok = false then 2 else 0)
    (hr : mrightN s (memW n) = true) {o : Me} {r : Rep} (hd : doN s (memW n) a = (o, r)) : ((r.ex.toNat : Int) == 0) = ok ∧ decide (o = memW n) = !ok := by
  rw [do_right hr, hc] at hd
  cases ok with
  | false =>
    simp at hd
    obtain ⟨rfl, rfl⟩ := hd
    exact ⟨rfl, by simp⟩
  | true =>
    simp at hd
    obtain ⟨rfl, rfl⟩ := hd
    refine ⟨by rw [answer_ex]; rfl, ?_⟩
    rw [Bool.not_true, decide_eq_false_iff_not]
    intro e
    have e1 := congrArg Me.holding e
    have e2 : (writeM (memW n) a).holding = overN (List.replicate n 0) k l := by
      show (if (wwN a.fn.toNat).isSome then overN (memW n).holding (targetN a) a.words else (memW n).holding) = _
      rw [if_pos hw, ht, hl]
      rfl
    rw [e2] at e1
    have hlen : 1 ≤ l.length := by
      cases l with
      | nil => cases h0
      | cons x t => simp
    have e3 : (overN (List.replicate n (0 : UInt16)) k l)[k]? = (memW n).holding[k]? := congrArg (fun (z : List UInt16) => z[k]?) e1
    have e4 : (overN (List.replicate n (0 : UInt16)) k l)[k]? = some 1 := by
      unfold overN
      rw [List.append_assoc, List.getElem?_append_right (by simp; omega), List.length_take, List.length_replicate, Nat.min_eq_left (by omega), Nat.sub_self, List.getElem?_append_left (by omega)]
      exact h0
    have e5 : (memW n).holding[k]? = some 0 := by
      show (List.replicate n (0 : UInt16))[k]? = _
      rw [List.getElem?_replicate, if_pos (by omega)]
    rw [e4, e5] at e3
    exact absurd e3 (by decide)
end Go.Proofs.Ytamdpinfbadflaa.ModM
