/- ModP: what was ModP, ModSwapP. -/
import Derived.Test.YtamdpinfbadflaaModL
import Derived.Test.YtamdpinfbadflaaReplyEchoF
import Derived.Test.YtamdpinfbadflaaReplyLim
/- What is allowed lies in the tables; what is answered fits. -/
namespace Go.Proofs.Ytamdpinfbadflaa.ModM
open AskM ReplyM ReplyW

theorem right_from {len : Nat} : ∀ {es : List Ar} {e : Int}, rightFrom len e es = true → ∀ x ∈ es, e ≤ x.at_ ∧ x.at_ + x.many ≤ (len : Int) ∧ 1 ≤ x.many := by
  intro es
  induction es with
  | nil => intro e _ x hx; cases hx
  | cons y r ih =>
    intro e h x hx
    unfold rightFrom at h
    split at h
    · cases h
    · rename_i hn
      rcases List.mem_cons.1 hx with rfl | hx
      · omega
      · have := ih h x hx
        omega
theorem owner_in {es : List Ar} {i : Int} (h : (ownN es i).read = true ∨ (ownN es i).write = true) : ownN es i ∈ es ∧ hasN (ownN es i) i = true := by
  unfold ownN at h ⊢
  cases hf : es.find? (hasN · i) with
  | none => rw [hf] at h; simp [zeroA] at h
  | some x => exact ⟨List.mem_of_find?_eq_some hf, by simpa using List.find?_some hf⟩
theorem owned_fit {len : Nat} {es : List Ar} {i : Nat} (hr : rightFrom len 0 es = true) (h : (ownN es i).read = true ∨ (ownN es i).write = true) : i < len := by
  obtain ⟨h1, h2⟩ := owner_in h
  have h3 := right_from hr _ h1
  have h4 := hasN_iff.1 h2
  omega
theorem readable_at {es : List Ar} {at_ n k : Nat} (h : readableN es at_ n = true) (hk : k < n) : (ownN es ((at_ + k : Nat) : Int)).read = true := by
  unfold readableN ownersN at h
  simp only [Bool.not_eq_true', List.any_eq_false, List.mem_map, List.mem_range] at h
  have := h _ ⟨k, hk, rfl⟩
  unfold readsA at this
  simpa using this
theorem writable_at {es : List Ar} {at_ n k : Nat} (h : writableN es at_ n = true) (hk : k < n) : (ownN es ((at_ + k : Nat) : Int)).write = true := by
  unfold writableN ownersN at h
  simp only [Bool.not_eq_true', List.any_eq_false, List.mem_map, List.mem_range] at h
  have := h _ ⟨k, hk, rfl⟩
  unfold writesA at this
  simp only [Bool.or_eq_true, not_or] at this
  simpa using this.1
theorem readable_fit {len : Nat} {es : List Ar} {at_ n : Nat} (hr : rightFrom len 0 es = true) (h : readableN es at_ n = true) (hn : 1 ≤ n) : at_ + n ≤ len := by
  have := owned_fit hr (.inl (readable_at h (k := n - 1) (by omega)))
  omega
theorem writable_fit {len : Nat} {es : List Ar} {at_ n : Nat} (hr : rightFrom len 0 es = true) (h : writableN es at_ n = true) (hn : 1 ≤ n) : at_ + n ≤ len := by
  have := owned_fit hr (.inr (writable_at h (k := n - 1) (by omega)))
  omega
theorem check_zero {s : Sp} {a : Req} (h : checkN s a = 0) : rightN a = true ∧ allowsN s a = true := by
  unfold checkN at h
  split at h
  · omega
  · split at h
    · omega
    · constructor <;> simp_all
theorem mright_parts {s : Sp} {m : Me} (h : mrightN s m = true) : rightFrom m.coils.length 0 s.coils = true ∧ rightFrom m.inputs.length 0 s.inputs = true ∧ rightFrom m.holding.length 0 s.holding = true ∧ rightFrom m.words.length 0 s.words = true := by
  unfold mrightN at h
  simp only [Bool.and_eq_true] at h
  exact ⟨h.1.1.1.1.1, h.1.1.1.1.2, h.1.1.1.2, h.1.1.2⟩
theorem allow_parts {s : Sp} {a : Req} (h : allowsN s a = true) : mayR s (brN a.fn.toNat) a.at_.toNat a.many.toNat = true ∧ mayR s (wrN a.fn.toNat) a.at_.toNat a.many.toNat = true ∧ mayW s (bwN a.fn.toNat) (targetN a) a.bits.length = true ∧ mayW s (wwN a.fn.toNat) (targetN a) a.words.length = true := by
  unfold allowsN at h
  simp only [Bool.and_eq_true] at h
  exact ⟨h.1.1.1, h.1.1.2, h.1.2, h.2⟩
/-- What a right request has at least one of. -/
theorem right_ones {a : Req} (h : rightN a = true) : ((brN a.fn.toNat).isSome = true → 1 ≤ a.many.toNat ∧ a.many.toNat ≤ 2000) ∧ ((wrN a.fn.toNat).isSome = true → 1 ≤ a.many.toNat ∧ a.many.toNat ≤ 125) ∧ ((bwN a.fn.toNat).isSome = true → 1 ≤ a.bits.length ∧ a.words = []) ∧ ((wwN a.fn.toNat).isSome = true → 1 ≤ a.words.length ∧ a.bits = []) := by
  obtain ⟨F, hF, hfit⟩ := right_row h
  obtain ⟨h1, h2, h3, h4, h5, h6, _⟩ := fit_facts hfit
  rcases rowN_cases hF with ⟨hc, rfl⟩ | ⟨hc, rfl⟩ | ⟨hc, rfl⟩ | ⟨hc, rfl⟩ | ⟨hc, rfl⟩ | ⟨hc, rfl⟩ | ⟨hc, rfl⟩ <;> simp only at h1 h2 h3 h4 h5 h6
  all_goals
    first
      | (rcases hc with hc | hc <;> rw [hc] <;> refine ⟨?_, ?_, ?_, ?_⟩ <;> intro hh <;> first | (exfalso; revert hh; decide) | (constructor <;> first | omega | exact List.eq_nil_of_length_eq_zero (by omega)))
      | (rw [hc]; refine ⟨?_, ?_, ?_, ?_⟩ <;> intro hh <;> first | (exfalso; revert hh; decide) | (constructor <;> first | omega | exact List.eq_nil_of_length_eq_zero (by omega)))
end Go.Proofs.Ytamdpinfbadflaa.ModM
namespace Go.Proofs.Ytamdpinfbadflaa.ModW
open AskM ReplyM ModM Mem AskW ReplyW
theorem br_tab {c k : Nat} (h : brN c = some k) : k = 0 ∨ k = 1 := by
  rcases br_cases c with e | e | e <;> rw [e] at h <;> first | (injection h with h; omega) | cases h
theorem wr_tab {c k : Nat} (h : wrN c = some k) : k = 2 ∨ k = 3 := by
  rcases wr_cases c with e | e | e <;> rw [e] at h <;> first | (injection h with h; omega) | cases h
theorem wfits_of {s : Sp} {m : Me} {a : Req} (hc : checkN s a = 0) (hr : mrightN s m = true) : WFits m a := by
  obtain ⟨h1, h2⟩ := check_zero hc
  obtain ⟨r1, r2, r3, r4⟩ := mright_parts hr
  obtain ⟨-, -, a3, a4⟩ := allow_parts h2
  obtain ⟨-, -, o3, o4⟩ := right_ones h1
  constructor
  · intro hb
    have h := (o3 hb).1
    refine ⟨h, ?_⟩
    rcases bw_cases a.fn.toNat with e | e
    · rw [e] at hb; cases hb
    · rw [e] at a3
      exact writable_fit r1 a3 h
  · intro hb
    have h := (o4 hb).1
    refine ⟨h, ?_⟩
    rcases ww_cases a.fn.toNat with e | e
    · rw [e] at hb; cases hb
    · rw [e] at a4
      exact writable_fit r3 a4 h
theorem write_lens {m : Me} {a : Req} (h : WFits m a) : (writeM m a).coils.length = m.coils.length ∧ (writeM m a).inputs = m.inputs ∧ (writeM m a).holding.length = m.holding.length ∧ (writeM m a).words = m.words := by
  refine ⟨?_, rfl, ?_, rfl⟩
  · show (if (bwN a.fn.toNat).isSome then overN m.coils (targetN a) a.bits else m.coils).length = _
    split
    · rename_i e; exact over_length _ _ _ (h.bits e).2
    · rfl
  · show (if (wwN a.fn.toNat).isSome then overN m.holding (targetN a) a.words else m.holding).length = _
    split
    · rename_i e; exact over_length _ _ _ (h.words e).2
    · rfl
theorem rfits_of {s : Sp} {m : Me} {a : Req} (hc : checkN s a = 0) (hr : mrightN s m = true) : RFits (writeM m a) a := by
  obtain ⟨h1, h2⟩ := check_zero hc
  obtain ⟨r1, r2, r3, r4⟩ := mright_parts hr
  obtain ⟨a1, a2, -, -⟩ := allow_parts h2
  obtain ⟨o1, o2, -, -⟩ := right_ones h1
  obtain ⟨l1, l2, l3, l4⟩ := write_lens (wfits_of hc hr)
  constructor
  · intro k hk
    rw [hk] at a1 o1
    have h := (o1 rfl).1
    refine ⟨h, ?_⟩
    rcases br_tab hk with rfl | rfl
    · show _ ≤ (writeM m a).coils.length
      rw [l1]; exact readable_fit r1 a1 h
    · show _ ≤ (writeM m a).inputs.length
      rw [l2]; exact readable_fit r2 a1 h
  · intro k hk
    rw [hk] at a2 o2
    have h := (o2 rfl).1
    refine ⟨h, ?_⟩
    rcases wr_tab hk with rfl | rfl
    · show _ ≤ (writeM m a).holding.length
      rw [l3]; exact readable_fit r3 a2 h
    · show _ ≤ (writeM m a).words.length
      rw [l4]; exact readable_fit r4 a2 h
/-- Do, without conditions but on sizes. -/
theorem Do_at (s : Sp) (p : Pl) (m : Me) (p2 : Pl) (a : Req) (aw : Option Addr) (cw : Nat) (ab : Option Addr) (cb : Nat) (w : World) (hS : SpAt w w.heap.size s p) (hM : MeAt w w.heap.size m p2) (hm : MeSmall m) (hA : AskAt w w.heap.size a aw cw ab cb)
    (hnw : a.words.length ≤ 65535) (hnb : a.bits.length ≤ 65535) :
    Calls Try.prog 11 #[spV s p, meV m p2, askV a aw cw ab cb] w (Does (doN s m a) w) :=
  Do_any s p m p2 a aw cw ab cb w hS hM hm hA (fun h1 h2 => wfits_of h1 h2) (fun h1 h2 => rfits_of h1 h2) hnw hnb
end Go.Proofs.Ytamdpinfbadflaa.ModW
/- Function 23 is function 16, and function 3 behind it, plainly. -/
namespace Go.Proofs.Ytamdpinfbadflaa.ModM
open AskM ReplyM ReplyW

theorem mright_len {s : Sp} {m n : Me} (h1 : n.coils.length = m.coils.length) (h2 : n.inputs.length = m.inputs.length) (h3 : n.holding.length = m.holding.length) (h4 : n.words.length = m.words.length) : mrightN s n = mrightN s m := by
  unfold mrightN; rw [h1, h2, h3, h4]
theorem mright_write {s : Sp} {m : Me} {a : Req} (hc : checkN s a = 0) (hr : mrightN s m = true) : mrightN s (writeM m a) = true := by
  obtain ⟨l1, l2, l3, l4⟩ := ModW.write_lens (ModW.wfits_of hc hr)
  rw [mright_len l1 (by rw [l2]) l3 (by rw [l4]), hr]
theorem do_right {s : Sp} {m : Me} {a : Req} (hr : mrightN s m = true) : doN s m a = if checkN s a ≠ 0 then (m, wrongN a.fn (UInt8.ofNat (checkN s a))) else (writeM m a, answerM (writeM m a) a) := by
  unfold doN
  split
  · rfl
  · rw [hr]; simp
theorem answer_ex (m : Me) (a : Req) : (answerM m a).ex = 0 := by
  unfold answerM
  cases h : echoN a with
  | none => rfl
  | some r =>
    unfold echoN at h
    split at h
    · cases h
    · split at h
      · injection h with h; subst h; rfl
      · split at h
        · injection h with h; subst h; rfl
        · split at h
          · injection h with h; subst h; rfl
          · cases h
theorem check_le (s : Sp) (a : Req) : checkN s a = 0 ∨ checkN s a = 2 ∨ checkN s a = 3 := by
  unfold checkN
  split
  · exact .inr (.inr rfl)
  · split
    · exact .inr (.inl rfl)
    · exact .inl rfl
theorem right23 (at_ many to_ : UInt16) (l : List UInt16) (h1 : 1 ≤ l.length) (h2 : l.length ≤ 121) : rightN ⟨23, at_, many, to_, l, []⟩ = rightN ⟨3, at_, many, 0, [], []⟩ := by
  have e1 : rightN ⟨23, at_, many, to_, l, []⟩ = fitN ⟨125, 0, 121, true⟩ ⟨23, at_, many, to_, l, []⟩ := rfl
  have e2 : rightN ⟨3, at_, many, 0, [], []⟩ = fitN ⟨125, 0, 0, false⟩ ⟨3, at_, many, 0, [], []⟩ := rfl
  rw [e1, e2]
  unfold fitN within listed
  simp [h2]
  omega
theorem right16 (to_ n : UInt16) (l : List UInt16) (hn : n.toNat = l.length) (h1 : 1 ≤ l.length) (h2 : l.length ≤ 121) : rightN ⟨16, to_, n, 0, l, []⟩ = true := by
  have e1 : rightN ⟨16, to_, n, 0, l, []⟩ = fitN ⟨123, 0, 123, false⟩ ⟨16, to_, n, 0, l, []⟩ := rfl
  rw [e1]
  unfold fitN within listed
  simp [hn]
  omega
theorem allows23 (s : Sp) (at_ many to_ : UInt16) (l : List UInt16) : allowsN s ⟨23, at_, many, to_, l, []⟩ = (readableN s.holding at_.toNat many.toNat && writableN s.holding to_.toNat l.length) := by
  show (true && readableN s.holding at_.toNat many.toNat && true && writableN s.holding to_.toNat l.length) = _
  simp
theorem allows16 (s : Sp) (to_ n : UInt16) (l : List UInt16) : allowsN s ⟨16, to_, n, 0, l, []⟩ = writableN s.holding to_.toNat l.length := by
  show (true && true && true && writableN s.holding to_.toNat l.length) = _
  simp
theorem allows3 (s : Sp) (at_ many : UInt16) : allowsN s ⟨3, at_, many, 0, [], []⟩ = readableN s.holding at_.toNat many.toNat := by
  show (true && readableN s.holding at_.toNat many.toNat && true && true) = _
  simp
theorem swap_facts (s : Sp) (m : Me) (at_ many to_ k : UInt16) (l : List UInt16) (hk : k.toNat = l.length) (h1 : 1 ≤ l.length) (h2 : l.length ≤ 121) (hr : mrightN s m = true) {n o p : Me} {r x y : Rep}
    (d1 : doN s m ⟨23, at_, many, to_, l, []⟩ = (n, r)) (d2 : doN s m ⟨16, to_, k, 0, l, []⟩ = (o, x)) (d3 : doN s o ⟨3, at_, many, 0, [], []⟩ = (p, y)) :
    (x.ex ≠ 0 ∨ y.ex ≠ 0 → n = m ∧ r.ex = if y.ex = 0 ∨ y.ex = 2 then 2 else y.ex) ∧ (x.ex = 0 ∧ y.ex = 0 → n = p ∧ r.ex = 0 ∧ r.words = y.words) := by
  have hro : mrightN s o = true := by
    rw [do_right hr] at d2
    split at d2
    · injection d2 with d2 _; subst d2; exact hr
    · rename_i hc; injection d2 with d2 _; subst d2; exact mright_write (by simpa using hc) hr
  have c1 : checkN s ⟨23, at_, many, to_, l, []⟩ = if rightN ⟨3, at_, many, 0, [], []⟩ = false then 3 else if (readableN s.holding at_.toNat many.toNat && writableN s.holding to_.toNat l.length) = false then 2 else 0 := by
    unfold checkN; rw [right23 _ _ _ _ h1 h2, allows23]
  have c2 : checkN s ⟨16, to_, k, 0, l, []⟩ = if writableN s.holding to_.toNat l.length = false then 2 else 0 := by
    unfold checkN; rw [right16 _ _ _ hk h1 h2, allows16]; simp
  have c3 : checkN s ⟨3, at_, many, 0, [], []⟩ = if rightN ⟨3, at_, many, 0, [], []⟩ = false then 3 else if readableN s.holding at_.toNat many.toNat = false then 2 else 0 := by
    unfold checkN; rw [allows3]
  rw [do_right hr] at d1 d2
  rw [do_right hro] at d3
  rw [c1] at d1
  rw [c2] at d2
  rw [c3] at d3
  cases hR : rightN ⟨3, at_, many, 0, [], []⟩ with
  | false =>
    rw [hR] at d1 d3
    simp at d1 d3
    obtain ⟨rfl, rfl⟩ := d1
    obtain ⟨rfl, rfl⟩ := d3
    exact ⟨fun _ => ⟨rfl, rfl⟩, fun h => absurd h.2 (show ¬ (3 : UInt8) = 0 by decide)⟩
  | true =>
    rw [hR] at d1 d3
    cases hd : readableN s.holding at_.toNat many.toNat with
    | false =>
      rw [hd] at d1 d3
      simp at d1 d3
      obtain ⟨rfl, rfl⟩ := d1
      obtain ⟨rfl, rfl⟩ := d3
      exact ⟨fun _ => ⟨rfl, rfl⟩, fun h => absurd h.2 (show ¬ (2 : UInt8) = 0 by decide)⟩
    | true =>
      rw [hd] at d1 d3
      cases hw : writableN s.holding to_.toNat l.length with
      | false =>
        rw [hw] at d1 d2
        simp at d1 d2 d3
        obtain ⟨rfl, rfl⟩ := d1
        obtain ⟨rfl, rfl⟩ := d2
        obtain ⟨rfl, rfl⟩ := d3
        refine ⟨fun _ => ⟨rfl, ?_⟩, fun h => absurd h.1 (show ¬ (2 : UInt8) = 0 by decide)⟩
        rw [answer_ex]
        rfl
      | true =>
        rw [hw] at d1 d2
        simp at d1 d2 d3
        obtain ⟨rfl, rfl⟩ := d1
        obtain ⟨rfl, rfl⟩ := d2
        obtain ⟨rfl, rfl⟩ := d3
        refine ⟨fun h => ?_, fun _ => ⟨rfl, answer_ex _ _, ?_⟩⟩
        · rw [answer_ex, answer_ex] at h
          rcases h with h | h <;> exact absurd rfl h
        · have e1 : echoN ⟨23, at_, many, to_, l, []⟩ = none := by unfold echoN; split <;> rfl
          have e2 : echoN ⟨3, at_, many, 0, [], []⟩ = none := by unfold echoN; split <;> rfl
          unfold answerM
          rw [e1, e2]
          rfl
end Go.Proofs.Ytamdpinfbadflaa.ModM
namespace Go.Proofs.Ytamdpinfbadflaa.ModW
open AskM ReplyM ModM Mem AskW ReplyW
theorem do_small {m : Me} (hm : MeSmall m) (s : Sp) (a : Req) : MeSmall (doN s m a).1 := by
  unfold doN
  split
  · exact hm
  · split
    · exact hm
    · rename_i h1 h2
      obtain ⟨l1, l2, l3, l4⟩ := write_lens (wfits_of (s := s) (m := m) (a := a) (by simpa using h1) (by simpa using h2))
      exact ⟨by rw [l1]; exact hm.coils, by rw [l2]; exact hm.inputs, by rw [l3]; exact hm.holding, by rw [l4]; exact hm.words⟩
end Go.Proofs.Ytamdpinfbadflaa.ModW
