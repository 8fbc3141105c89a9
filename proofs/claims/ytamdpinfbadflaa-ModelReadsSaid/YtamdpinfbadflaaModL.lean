/- ModL: what was ModI, ModJ, ModK, ModL. -/
import Derived.Test.YtamdpinfbadflaaModH
import Derived.Test.YtamdpinfbadflaaStep
/- A table's addresses written, and read. -/
open Go.RowKit
namespace Go.Proofs.Ytamdpinfbadflaa.ModW
open AskM ReplyM ModM Mem AskW ReplyW

theorem grown_setRow (w : World) (g : Nat) (cs : Array Value) : w.grownBy (w.setRow g cs) (some g) :=
  ⟨rfl, rfl, rfl, by simp [World.setRow], fun k _ hk => setRow_other w g k cs (fun e => hk (by rw [e]))⟩
/-- 'copy' into a row that is known whole: nothing else is written. -/
theorem wpList_copy_grown {P : Program} {w : World} {ops : Array Oper} {rest : List Oper} {o : Oper} {a : Act} {Q : Exit → Act → World → Prop} (hgd : o.guard = none) (d s : Operand) (dT sT : TypeId)
    (ho : o.op = .call { callee := .builtin .copy, args := #[d, s], argTypes := #[dT, sT] }) (elem : TypeId) (hu : P.underlying dT = some (.slice elem)) (hsz : (P.info? elem).map (·.size) = some 1)
    (dp sp : Option Addr) (dLen dCap sLen sCap : Nat) (hd : a.eval d = .slice dp dLen dCap) (hs : a.eval s = .slice sp sLen sCap)
    (g off : Nat) (cur : List Value) (t : TypeId) (hg : w.heap[g]? = some (.cells cur.toArray t (0, 0))) (cs : List Value) (hn : cs.length = Nat.min sLen dLen)
    (hpos : 0 < cs.length → dp = some ⟨g, off, none⟩ ∧ ∃ ad, sp = some ad ∧ ∀ j v, cs[j]? = some v → w.cell? (ad.add j) = some v)
    (hfit : off + cs.length ≤ cur.length) (h1 : ∀ v ∈ cs, v.oneCell' = true)
    (h : ∀ w', Hid (w'.heap[g]? = some (.cells (splice cur off cs).toArray t (0, 0)) ∧ w.grownBy w' (some g)) → wpList P ops Q rest (a.put o.dst (goInt cs.length)) w') :
    wpList P ops Q (o :: rest) a w := by
  by_cases h0 : cs.length = 0
  · obtain rfl : cs = [] := List.eq_nil_of_length_eq_zero h0
    refine wpList_copy_nothing hgd d s dT sT ho elem hu hsz dp sp dLen dCap sLen sCap hd hs (by simpa using hn.symm) ?_
    exact h w (Lib.hid ⟨by simpa [splice] using hg, World.grownBy.refl _ _⟩)
  · obtain ⟨rfl, ad, rfl, hsrc⟩ := hpos (by omega)
    refine wpList_copy_own hgd d s dT sT ho elem hu hsz g off dLen dCap ad sLen sCap hd hs cur.toArray t hg cs hn hsrc (by simpa using hfit) h1 ?_
    exact h _ (Lib.hid ⟨by simpa [splice] using setRow_heap w g _ _ t _ hg, grown_setRow _ _ _⟩)
theorem splice_over {α : Type} {f : α → Value} (l : List α) (at_ : Nat) (v : List α) (r : List Value) (h : at_ + v.length ≤ l.length) : splice (l.map f ++ r) at_ (v.map f) = (overN l at_ v).map f ++ r := by
  unfold splice overN
  rw [List.map_append, List.map_append, List.map_take, List.map_drop, List.length_map]
  rw [List.take_append_of_le_length (by rw [List.length_map]; omega), List.drop_append_of_le_length (by rw [List.length_map]; omega)]
  simp [List.append_assoc]
theorem over_length {α : Type} (l : List α) (at_ : Nat) (v : List α) (h : at_ + v.length ≤ l.length) : (overN l at_ v).length = l.length := by
  unfold overN; simp; omega
/-- The row at g is written over. -/
theorem own_over {α : Type} {f : α → Value} {w w' : World} {base g n c : Nat} {T : TypeId} {cur : Array Value} {l : List α} {at_ : Nat} {v : List α}
    (h : w.ownsRow base T 1 (.slice (some ⟨g, 0, none⟩) n c) n (l.map f)) (hg : w.heap[g]? = some (.cells cur T (0, 0))) (h' : w'.heap[g]? = some (.cells (splice cur.toList at_ (v.map f)).toArray T (0, 0))) (hl : at_ + v.length ≤ l.length) :
    w'.ownsRow base T 1 (.slice (some ⟨g, 0, none⟩) n c) n ((overN l at_ v).map f) := by
  have hln : l.length = n := by have := h.1; simpa using this
  rcases h.2 with ⟨h0, _⟩ | ⟨g', cap', cur', hv, hbg, hh, hnc, hcm, hcs, htk⟩
  · cases h0
  · injection hv with e1 e2 e3
    injection e1 with e1
    injection e1 with e1
    subst e1 e3
    rw [hg] at hh
    injection hh with hh
    injection hh with hh
    subst hh
    rw [Nat.mul_one] at hcs htk
    have hdec : cur.toList = l.map f ++ cur.toList.drop n := by
      conv => lhs; rw [← List.take_append_drop n cur.toList]
      rw [htk]
    rw [hdec, splice_over _ _ _ _ hl] at h'
    refine ⟨by rw [List.length_map, over_length _ _ _ hl]; omega, .inr ⟨g, c, _, rfl, hbg, h', hnc, hcm, ?_, ?_⟩⟩
    · have h2 : cur.toList.length = c := by simpa using hcs
      simp [over_length _ _ _ hl, hln]
      omega
    · rw [Nat.mul_one]
      rw [List.take_append_of_le_length (by rw [List.length_map, over_length _ _ _ hl]; omega), List.take_of_length_le (by rw [List.length_map, over_length _ _ _ hl]; omega)]
theorem own_row {w : World} {base g n c : Nat} {T : TypeId} {xs : List Value} (h : w.ownsRow base T 1 (.slice (some ⟨g, 0, none⟩) n c) n xs) : ∃ cur : Array Value, w.heap[g]? = some (.cells cur T (0, 0)) ∧ cur.toList.length = c ∧ n ≤ c ∧ c ≤ maxLen := by
  rcases h.2 with ⟨h0, _⟩ | ⟨g', cap', cur', hv, hbg, hh, hnc, hcm, hcs, htk⟩
  · cases h0
  · injection hv with e1 e2 e3
    injection e1 with e1
    injection e1 with e1
    subst e1 e3
    exact ⟨cur', hh, by simpa using hcs, hnc, hcm⟩
def SrcAt (W : World) (g : Nat) (p : Option Addr) (cs : List Value) : Prop := 0 < cs.length → some (⟨g, 0, none⟩ : Addr) = some ⟨g, 0, none⟩ ∧ ∃ ad, p = some ad ∧ ∀ j v, cs[j]? = some v → W.cell? (ad.add j) = some v
/-- A row is written over; nothing else is. -/
def Overs {α : Type} (f : α → Value) (T : TypeId) (base g n c : Nat) (l : List α) (w : World) (e : Ending) (w' : World) : Prop :=
  e = .returned (.tuple #[]) ∧ w'.ownsRow base T 1 (.slice (some ⟨g, 0, none⟩) n c) n (l.map f) ∧ w.grownBy w' (some g)

theorem write_nil_bits (at_ : Nat) (v : Value) (w : World) : Calls Try.prog 46 #[.pointer none, .int .i64 (at_ : Int), v] w fun e w' => e = .returned (.tuple #[]) ∧ w' = w := by
  go_enter Try.func46, Try.ntmps46
  go_wp2_with fail
  go_end0
  exact ⟨rfl, rfl⟩
set_option maxHeartbeats 2000000 in
theorem write_bits (t o base g n c : Nat) (l : List Bool) (at_ : Nat) (b : Option Addr) (k d : Nat) (v : List Bool) (w : World)
    (h1 : w.cell? ⟨t, o + 1, none⟩ = some (.slice (some ⟨g, 0, none⟩) n c)) (hown : w.ownsRow base 4 1 (.slice (some ⟨g, 0, none⟩) n c) n (l.map Value.bool)) {B : Nat} (hS : Sl Value.bool w B b k d v) (hk : 1 ≤ k) (hfit : at_ + k ≤ n) :
    Calls Try.prog 46 #[.pointer (some ⟨t, o, none⟩), .int .i64 (at_ : Int), .slice b k d] w (Overs Value.bool 4 base g n c (overN l at_ v) w) := by
  obtain ⟨cur, hcur, hcl, hnc, hcm⟩ := own_row hown
  have hsz : (Try.prog.info? 4).map (·.size) = some 1 := by kernel_rfl
  have hkv : v.length = k := hS.len
  have hln : l.length = n := by have := hown.1; simpa using this
  have hcm' : c ≤ 9223372036854775807 := by unfold maxLen at hcm; omega
  have hne : ¬ c = at_ := by omega
  have HN1 : Hid ((v.map Value.bool).length = Nat.min k (n - at_)) := by show _ = _; rw [List.length_map, hkv]; exact (Nat.min_eq_left (by omega)).symm
  have HP : Hid (0 < (v.map Value.bool).length → some (⟨g, at_, none⟩ : Addr) = some ⟨g, at_, none⟩ ∧ ∃ ad, b = some ad ∧ ∀ j x, (v.map Value.bool)[j]? = some x → w.cell? (ad.add j) = some x) := Lib.hid fun _ => by
    obtain ⟨bb, off, rfl, _, hc⟩ := hS.cells (by omega)
    refine ⟨rfl, _, rfl, fun j x hj => ?_⟩
    rw [List.getElem?_map] at hj
    obtain ⟨y, hy, rfl⟩ := Option.map_eq_some_iff.1 hj
    rw [← hc j y hy]
    by_cases h0 : j = 0 <;> simp [Addr.add, h0]
  have HF : Hid (at_ + (v.map Value.bool).length ≤ cur.toList.length) := by show _ ≤ _; rw [List.length_map, hkv, hcl]; omega
  have H1 : Hid (∀ x ∈ v.map Value.bool, x.oneCell' = true) := Lib.hid fun x hx => by obtain ⟨y, _, rfl⟩ := List.mem_map.1 hx; exact bool_one y
  have HOV := Lib.hid (fun w' (h' : w'.heap[g]? = some (.cells (splice cur.toList at_ (v.map Value.bool)).toArray 4 (0, 0))) => own_over (w' := w') hown hcur h' (by omega))
  have HCUR := Lib.hid hcur
  obtain ⟨CS, HCS⟩ : ∃ CS, Hid (CS = v.map Value.bool) := ⟨_, Lib.hid rfl⟩
  rw [← HCS.out] at HN1 HP HF H1 HOV
  clear hown hcur hcl hcm hS hkv hln
  go_enter Try.func46, Try.ntmps46
  go_wp2_with (refine wpList_copy_grown rfl (.tmp 13) (.tmp 14) 25 25 rfl 4 Try.underlying25 hsz _ _ _ _ _ _ rfl rfl g at_ cur.toList 4 (by simpa using HCUR.out) CS HN1.out HP.out HF.out H1.out ?_; rintro w1 HW1)
  go_end0
  exact ⟨rfl, HOV.out _ HW1.out.1, HW1.out.2⟩

theorem write_nil_regs (at_ : Nat) (v : Value) (w : World) : Calls Try.prog 47 #[.pointer none, .int .i64 (at_ : Int), v] w fun e w' => e = .returned (.tuple #[]) ∧ w' = w := by
  go_enter Try.func47, Try.ntmps47
  go_wp2_with fail
  go_end0
  exact ⟨rfl, rfl⟩
set_option maxHeartbeats 2000000 in
theorem write_regs (t o base g n c : Nat) (l : List UInt16) (at_ : Nat) (b : Option Addr) (k d : Nat) (v : List UInt16) (w : World)
    (h1 : w.cell? ⟨t, o + 1, none⟩ = some (.slice (some ⟨g, 0, none⟩) n c)) (hown : w.ownsRow base 29 1 (.slice (some ⟨g, 0, none⟩) n c) n (l.map b16)) {B : Nat} (hS : Sl b16 w B b k d v) (hk : 1 ≤ k) (hfit : at_ + k ≤ n) :
    Calls Try.prog 47 #[.pointer (some ⟨t, o, none⟩), .int .i64 (at_ : Int), .slice b k d] w (Overs b16 29 base g n c (overN l at_ v) w) := by
  obtain ⟨cur, hcur, hcl, hnc, hcm⟩ := own_row hown
  have hsz : (Try.prog.info? 29).map (·.size) = some 1 := by kernel_rfl
  have hkv : v.length = k := hS.len
  have hln : l.length = n := by have := hown.1; simpa using this
  have hcm' : c ≤ 9223372036854775807 := by unfold maxLen at hcm; omega
  have hne : ¬ c = at_ := by omega
  have HN1 : Hid ((v.map b16).length = Nat.min k (n - at_)) := by show _ = _; rw [List.length_map, hkv]; exact (Nat.min_eq_left (by omega)).symm
  have HP : Hid (0 < (v.map b16).length → some (⟨g, at_, none⟩ : Addr) = some ⟨g, at_, none⟩ ∧ ∃ ad, b = some ad ∧ ∀ j x, (v.map b16)[j]? = some x → w.cell? (ad.add j) = some x) := Lib.hid fun _ => by
    obtain ⟨bb, off, rfl, _, hc⟩ := hS.cells (by omega)
    refine ⟨rfl, _, rfl, fun j x hj => ?_⟩
    rw [List.getElem?_map] at hj
    obtain ⟨y, hy, rfl⟩ := Option.map_eq_some_iff.1 hj
    rw [← hc j y hy]
    by_cases h0 : j = 0 <;> simp [Addr.add, h0]
  have HF : Hid (at_ + (v.map b16).length ≤ cur.toList.length) := by show _ ≤ _; rw [List.length_map, hkv, hcl]; omega
  have H1 : Hid (∀ x ∈ v.map b16, x.oneCell' = true) := Lib.hid fun x hx => by obtain ⟨y, _, rfl⟩ := List.mem_map.1 hx; exact b16_one' y
  have HOV := Lib.hid (fun w' (h' : w'.heap[g]? = some (.cells (splice cur.toList at_ (v.map b16)).toArray 29 (0, 0))) => own_over (w' := w') hown hcur h' (by omega))
  have HCUR := Lib.hid hcur
  obtain ⟨CS, HCS⟩ : ∃ CS, Hid (CS = v.map b16) := ⟨_, Lib.hid rfl⟩
  rw [← HCS.out] at HN1 HP HF H1 HOV
  clear hown hcur hcl hcm hS hkv hln
  go_enter Try.func47, Try.ntmps47
  go_wp2_with (refine wpList_copy_grown rfl (.tmp 13) (.tmp 14) 26 26 rfl 29 Try.underlying26 hsz _ _ _ _ _ _ rfl rfl g at_ cur.toList 29 (by simpa using HCUR.out) CS HN1.out HP.out HF.out H1.out ?_; rintro w1 HW1)
  go_end0
  exact ⟨rfl, HOV.out _ HW1.out.1, HW1.out.2⟩

set_option maxRecDepth 100000
theorem read_nil_bits (at_ k m : Nat) (w : World) : Calls Try.prog 48 #[.pointer none, .int .i64 (at_ : Int), .int .i64 (k : Int), .int .i64 (m : Int)] w (Fresh Value.bool [] w) := by
  go_enter Try.func48, Try.ntmps48
  go_wp2_with fail
  go_ret
  exact Fresh.mk rfl Sl.none_ (Below.refl _ _) (fun _ h => by cases h)
set_option maxHeartbeats 2000000 in
theorem read_bits (t o : Nat) (a : Option Addr) (n c : Nat) (l : List Bool) (at_ k : Nat) (w : World) (ht : t < w.heap.size)
    (h1 : w.cell? ⟨t, o + 1, none⟩ = some (.slice a n c)) (hS : Sl Value.bool w w.heap.size a n c l) (hk : 1 ≤ k) (hkm : k ≤ 65535) (hfit : at_ + k ≤ n) :
    Calls Try.prog 48 #[.pointer (some ⟨t, o, none⟩), .int .i64 (at_ : Int), .int .i64 (k : Int), .int .i64 8] w (Fresh Value.bool (padN ((l.drop at_).take k)) w) := by
  have hcm := hS.cle
  have hnc := hS.nle
  have a1 : IntKind.i64.wrap ((k : Int) + 8) = (k : Int) + 8 := wrap64 (by omega) (by omega)
  have a2 : IntKind.i64.wrap ((k : Int) + 8 - 1) = (k : Int) + 7 := by rw [wrap64 (by omega) (by omega)]; omega
  have a3 : IntKind.i64.wrap ((at_ : Int) + (k : Int)) = (at_ : Int) + (k : Int) := wrap64 (by unfold maxLen at hcm; omega) (by unfold maxLen at hcm; omega)
  have hlen := hS.len
  have hcm' : c ≤ 9223372036854775807 := by unfold maxLen at hcm; omega
  have hne : ¬ c = at_ := by omega
  have hsz : (Try.prog.info? 4).map (·.size) = some 1 := by kernel_rfl
  have hmk : ∀ w : World, (Instr.makeSlice 25 (.int .i64 (((k : Int) + 7) / 8 * 8)) (.int .i64 (((k : Int) + 7) / 8 * 8))).run Try.prog w = .ok (.slice (some ⟨w.heap.size, 0, none⟩) ((k + 7) / 8 * 8) ((k + 7) / 8 * 8)) (w.alloc (.cells (Array.replicate ((k + 7) / 8 * 8) (.bool false)) 4)) := fun w => by
    obtain ⟨i, hi⟩ : ∃ i, Try.prog.info? 4 = some i := by
      cases h : Try.prog.info? 4 with
      | none => rw [h] at hsz; cases hsz
      | some i => exact ⟨i, rfl⟩
    have hz : (Try.prog.info? 4).map (fun i => (i.zero, i.size, i.bytes)) = some (some (.bool false), 1, 1) := by kernel_rfl
    rw [hi] at hz
    simp only [Option.map_some, Option.some.injEq, Prod.mk.injEq] at hz
    have hr := run_make (P := Try.prog) w 25 4 i _ Try.underlying25 hi hz.1 .i64 .i64 (((k : Int) + 7) / 8 * 8) (((k : Int) + 7) / 8 * 8) (by omega) (Int.le_refl _) (by rw [hz.2.2]; omega) (by omega)
    rw [hz.2.1, show ((((k : Int) + 7) / 8 * 8)).toNat = ((k + 7) / 8 * 8) by omega, Nat.mul_one] at hr
    rw [hr, show ((.bool false : Value)).cells = #[.bool false] from rfl, madeCells_one, List.toArray_replicate]
  have HC : Hid (((l.drop at_).take k).map Value.bool = ((l.drop at_).take k).map Value.bool) := Lib.hid rfl
  have hL : ((l.drop at_).take k).length = k := by simp; omega
  have HN : Hid ((((l.drop at_).take k).map Value.bool).length = Nat.min k ((k + 7) / 8 * 8)) := Lib.hid (by rw [List.length_map, hL]; exact (Nat.min_eq_left (by omega)).symm)
  have HN2 : Hid ((((l.drop at_).take k).map Value.bool).length = Nat.min (at_ + k - at_) ((k + 7) / 8 * 8)) := Lib.hid (by rw [HN.out, Nat.add_sub_cancel_left])
  obtain ⟨bb, off, rfl, hbb, hc⟩ := hS.cells (by omega)
  have HP : Hid (SrcAt (w.alloc (.cells (Array.replicate ((k + 7) / 8 * 8) (.bool false)) 4)) w.heap.size (some ⟨bb, off + at_, none⟩) (((l.drop at_).take k).map Value.bool)) := Lib.hid fun _ => by
    refine ⟨rfl, _, rfl, fun j x hj => ?_⟩
    rw [List.getElem?_map] at hj
    obtain ⟨y, hy, rfl⟩ := Option.map_eq_some_iff.1 hj
    have hjk : j < k := by have := (List.getElem?_eq_some_iff.1 hy).1; omega
    rw [List.getElem?_take_of_lt hjk, List.getElem?_drop] at hy
    have e1 : (⟨bb, off + at_, none⟩ : Addr).add j = ⟨bb, off + (at_ + j), none⟩ := by
      by_cases h2 : j = 0 <;> simp [Addr.add, h2] <;> omega
    rw [e1, World.cell?_alloc_lt _ _ _ hbb]
    exact hc _ y hy
  have HG : Hid ((w.alloc (.cells (Array.replicate ((k + 7) / 8 * 8) (.bool false)) 4)).heap[w.heap.size]? = some (.cells (List.replicate ((k + 7) / 8 * 8) (.bool false : Value)).toArray 4 (0, 0))) := Lib.hid (by rw [List.toArray_replicate]; exact heap_alloc_new w _)
  have HF : Hid (0 + (((l.drop at_).take k).map Value.bool).length ≤ (List.replicate ((k + 7) / 8 * 8) (.bool false : Value)).length) := Lib.hid (by rw [List.length_map, hL, List.length_replicate]; omega)
  have H1 : Hid (∀ x ∈ ((l.drop at_).take k).map Value.bool, x.oneCell' = true) := Lib.hid fun x hx => by obtain ⟨y, _, rfl⟩ := List.mem_map.1 hx; exact bool_one y
  obtain ⟨CS, HCS⟩ : ∃ CS, Hid (CS = ((l.drop at_).take k).map Value.bool) := ⟨_, Lib.hid rfl⟩
  rw [← HCS.out] at HN HN2 HP HF H1
  have HE : Hid (splice (List.replicate ((k + 7) / 8 * 8) (.bool false : Value)) 0 CS = (padN ((l.drop at_).take k)).map Value.bool ∧ (padN ((l.drop at_).take k)).length = ((k + 7) / 8 * 8)) := Lib.hid (by
    rw [HCS.out]
    unfold splice
    rw [List.length_map, hL]
    unfold padN; rw [hL]; constructor
    · simp [List.map_append]
    · simp; omega)
  clear hS hL hcm hlen HC hc
  go_enter Try.func48, Try.ntmps48
  go_wp2_with (refine wpList_copy_splice rfl (.tmp 21) (.tmp 30) 25 25 rfl 4 Try.underlying25 hsz _ _ _ _ _ _ rfl rfl w.heap.size 0 (List.replicate ((k + 7) / 8 * 8) (.bool false : Value)) 4 HG.out CS (by first | exact HN.out | exact HN2.out) HP.out HF.out H1.out w.heap.size w ((Below.refl _ _).alloc (Nat.le_refl _) _) (Nat.le_refl _) ?_; intro w1 HW1 hB1)
  have hw1 := HW1.out
  rw [HE.out.1] at hw1
  have HO := Lib.hid (own_of_row (n := ((padN ((l.drop at_).take k)).map Value.bool).length) hw1 (Nat.le_refl _) (by rw [List.length_map, HE.out.2]; unfold maxLen; omega) (Nat.le_refl w.heap.size))
  have HB1 := Lib.hid hB1
  clear hw1 hB1 HW1
  go_ret
  have h := HO.out
  rw [List.take_of_length_le (Nat.le_refl _), List.length_map, HE.out.2] at h
  exact Fresh.of_own h (Nat.le_refl _) HB1.out

set_option maxRecDepth 100000
theorem read_nil_regs (at_ k m : Nat) (w : World) : Calls Try.prog 49 #[.pointer none, .int .i64 (at_ : Int), .int .i64 (k : Int), .int .i64 (m : Int)] w (Fresh b16 [] w) := by
  go_enter Try.func49, Try.ntmps49
  go_wp2_with fail
  go_ret
  exact Fresh.mk rfl Sl.none_ (Below.refl _ _) (fun _ h => by cases h)
set_option maxHeartbeats 2000000 in
theorem read_regs (t o : Nat) (a : Option Addr) (n c : Nat) (l : List UInt16) (at_ k : Nat) (w : World) (ht : t < w.heap.size)
    (h1 : w.cell? ⟨t, o + 1, none⟩ = some (.slice a n c)) (hS : Sl b16 w w.heap.size a n c l) (hk : 1 ≤ k) (hkm : k ≤ 65535) (hfit : at_ + k ≤ n) :
    Calls Try.prog 49 #[.pointer (some ⟨t, o, none⟩), .int .i64 (at_ : Int), .int .i64 (k : Int), .int .i64 1] w (Fresh b16 ((l.drop at_).take k) w) := by
  have hcm := hS.cle
  have hnc := hS.nle
  have a1 : IntKind.i64.wrap ((k : Int) + 1) = (k : Int) + 1 := wrap64 (by omega) (by omega)
  have a2 : IntKind.i64.wrap ((k : Int) + 1 - 1) = (k : Int) := by rw [wrap64 (by omega) (by omega)]; omega
  have a3 : IntKind.i64.wrap ((at_ : Int) + (k : Int)) = (at_ : Int) + (k : Int) := wrap64 (by unfold maxLen at hcm; omega) (by unfold maxLen at hcm; omega)
  have hlen := hS.len
  have hcm' : c ≤ 9223372036854775807 := by unfold maxLen at hcm; omega
  have hne : ¬ c = at_ := by omega
  have hsz : (Try.prog.info? 29).map (·.size) = some 1 := by kernel_rfl
  have hmk : ∀ w : World, (Instr.makeSlice 26 (.int .i64 (k : Int)) (.int .i64 (k : Int))).run Try.prog w = .ok (.slice (some ⟨w.heap.size, 0, none⟩) k k) (w.alloc (.cells (Array.replicate k (.int .u16 0)) 29)) := fun w => by
    obtain ⟨i, hi⟩ : ∃ i, Try.prog.info? 29 = some i := by
      cases h : Try.prog.info? 29 with
      | none => rw [h] at hsz; cases hsz
      | some i => exact ⟨i, rfl⟩
    have hz : (Try.prog.info? 29).map (fun i => (i.zero, i.size, i.bytes)) = some (some (.int .u16 0), 1, 2) := by kernel_rfl
    rw [hi] at hz
    simp only [Option.map_some, Option.some.injEq, Prod.mk.injEq] at hz
    have hr := run_make (P := Try.prog) w 26 29 i _ Try.underlying26 hi hz.1 .i64 .i64 (k : Int) (k : Int) (by omega) (Int.le_refl _) (by rw [hz.2.2]; omega) (by omega)
    rw [hz.2.1, show ((k : Int)).toNat = k by omega, Nat.mul_one] at hr
    rw [hr, show ((.int .u16 0 : Value)).cells = #[.int .u16 0] from rfl, madeCells_one, List.toArray_replicate]
  have HC : Hid (((l.drop at_).take k).map b16 = ((l.drop at_).take k).map b16) := Lib.hid rfl
  have hL : ((l.drop at_).take k).length = k := by simp; omega
  have HN : Hid ((((l.drop at_).take k).map b16).length = Nat.min k k) := Lib.hid (by rw [List.length_map, hL]; exact (Nat.min_eq_left (by omega)).symm)
  have HN2 : Hid ((((l.drop at_).take k).map b16).length = Nat.min (at_ + k - at_) k) := Lib.hid (by rw [HN.out, Nat.add_sub_cancel_left])
  obtain ⟨bb, off, rfl, hbb, hc⟩ := hS.cells (by omega)
  have HP : Hid (SrcAt (w.alloc (.cells (Array.replicate k (.int .u16 0)) 29)) w.heap.size (some ⟨bb, off + at_, none⟩) (((l.drop at_).take k).map b16)) := Lib.hid fun _ => by
    refine ⟨rfl, _, rfl, fun j x hj => ?_⟩
    rw [List.getElem?_map] at hj
    obtain ⟨y, hy, rfl⟩ := Option.map_eq_some_iff.1 hj
    have hjk : j < k := by have := (List.getElem?_eq_some_iff.1 hy).1; omega
    rw [List.getElem?_take_of_lt hjk, List.getElem?_drop] at hy
    have e1 : (⟨bb, off + at_, none⟩ : Addr).add j = ⟨bb, off + (at_ + j), none⟩ := by
      by_cases h2 : j = 0 <;> simp [Addr.add, h2] <;> omega
    rw [e1, World.cell?_alloc_lt _ _ _ hbb]
    exact hc _ y hy
  have HG : Hid ((w.alloc (.cells (Array.replicate k (.int .u16 0)) 29)).heap[w.heap.size]? = some (.cells (List.replicate k (.int .u16 0 : Value)).toArray 29 (0, 0))) := Lib.hid (by rw [List.toArray_replicate]; exact heap_alloc_new w _)
  have HF : Hid (0 + (((l.drop at_).take k).map b16).length ≤ (List.replicate k (.int .u16 0 : Value)).length) := Lib.hid (by rw [List.length_map, hL, List.length_replicate]; omega)
  have H1 : Hid (∀ x ∈ ((l.drop at_).take k).map b16, x.oneCell' = true) := Lib.hid fun x hx => by obtain ⟨y, _, rfl⟩ := List.mem_map.1 hx; exact b16_one' y
  obtain ⟨CS, HCS⟩ : ∃ CS, Hid (CS = ((l.drop at_).take k).map b16) := ⟨_, Lib.hid rfl⟩
  rw [← HCS.out] at HN HN2 HP HF H1
  have HE : Hid (splice (List.replicate k (.int .u16 0 : Value)) 0 CS = ((l.drop at_).take k).map b16 ∧ ((l.drop at_).take k).length = k) := Lib.hid (by
    rw [HCS.out]
    unfold splice
    rw [List.length_map, hL]
    constructor
    · simp
    · first | rfl | exact hL)
  clear hS hL hcm hlen HC hc
  go_enter Try.func49, Try.ntmps49
  go_wp2_with (refine wpList_copy_splice rfl (.tmp 21) (.tmp 30) 26 26 rfl 29 Try.underlying26 hsz _ _ _ _ _ _ rfl rfl w.heap.size 0 (List.replicate k (.int .u16 0 : Value)) 29 HG.out CS (by first | exact HN.out | exact HN2.out) HP.out HF.out H1.out w.heap.size w ((Below.refl _ _).alloc (Nat.le_refl _) _) (Nat.le_refl _) ?_; intro w1 HW1 hB1)
  have hw1 := HW1.out
  rw [HE.out.1] at hw1
  have HO := Lib.hid (own_of_row (n := (((l.drop at_).take k).map b16).length) hw1 (Nat.le_refl _) (by rw [List.length_map, HE.out.2]; unfold maxLen; omega) (Nat.le_refl w.heap.size))
  have HB1 := Lib.hid hB1
  clear hw1 hB1 HW1
  go_ret
  have h := HO.out
  rw [List.take_of_length_le (Nat.le_refl _), List.length_map, HE.out.2] at h
  exact Fresh.of_own h (Nat.le_refl _) HB1.out

end Go.Proofs.Ytamdpinfbadflaa.ModW
/- What a request writes. -/
open Go.RowKit
namespace Go.Proofs.Ytamdpinfbadflaa.ModW
open AskM ReplyM ModM Mem AskW ReplyW

/-- Nothing but the rows of coils and of holding registers is turned. -/
structure Turn (w w' : World) (q : Pl) : Prop where
  os : w'.os = w.os
  tape : w'.tape = w.tape
  output : w'.output = w.output
  size : w.heap.size ≤ w'.heap.size
  keep : ∀ k, k < w.heap.size → (∀ x : Addr, q.ca = some x → x.block ≠ k) → (∀ x : Addr, q.ha = some x → x.block ≠ k) → w'.heap[k]? = w.heap[k]?
theorem Turn.of_below {w w' : World} {q : Pl} (h : Below w.heap.size w w') : Turn w w' q := ⟨h.os, h.tape, h.output, h.size, fun k hk _ _ => h.block k hk⟩
theorem Turn.then_coils {w w1 w' : World} {q : Pl} {x : Addr} (h : Below w.heap.size w w1) (hg : w1.grownBy w' (some x.block)) (hq : q.ca = some x) : Turn w w' q :=
  ⟨hg.os.trans h.os, hg.tape.trans h.tape, hg.output.trans h.output, Nat.le_trans h.size hg.size, fun k hk h1 _ => (hg.block k (Nat.lt_of_lt_of_le hk h.size) (fun e => h1 x hq (by injection e with e; exact e.symm))).trans (h.block k hk)⟩
theorem Turn.then_holding {w w1 w' : World} {q : Pl} {x : Addr} (h : Below w.heap.size w w1) (hg : w1.grownBy w' (some x.block)) (hq : q.ha = some x) : Turn w w' q :=
  ⟨hg.os.trans h.os, hg.tape.trans h.tape, hg.output.trans h.output, Nat.le_trans h.size hg.size, fun k hk _ h1 => (hg.block k (Nat.lt_of_lt_of_le hk h.size) (fun e => h1 x hq (by injection e with e; exact e.symm))).trans (h.block k hk)⟩
theorem own_grown {w w' : World} {base g : Nat} {T : TypeId} {a : Option Addr} {n c m : Nat} {xs : List Value} (h : w.ownsRow base T 1 (.slice a n c) m xs) (hg : w.grownBy w' (some g)) (hne : ∀ y : Addr, a = some y → y.block ≠ g) : w'.ownsRow base T 1 (.slice a n c) m xs := by
  refine h.kept (row := some g) hg ?_
  cases a with
  | none => exact .inl rfl
  | some y => exact .inr fun e => hne y rfl (by simpa [Value.ownBlock] using e)
theorem OwnMe.set_coils {w w' : World} {base : Nat} {m : Me} {q : Pl} (h : OwnMe w base m q) {x : Addr} (hq : q.ca = some x) (hg : w.grownBy w' (some x.block)) {l : List Bool}
    (ho : w'.ownsRow base 4 1 (.slice q.ca l.length q.cc) l.length (l.map Value.bool)) : OwnMe w' base { m with coils := l } q :=
  ⟨ho, own_grown h.inputs hg (fun y hy e => h.ci x y hq hy e.symm), own_grown h.holding hg (fun y hy e => h.ch x y hq hy e.symm), own_grown h.words hg (fun y hy e => h.cw x y hq hy e.symm), h.ci, h.ch, h.cw, h.hi, h.hw⟩
theorem OwnMe.set_holding {w w' : World} {base : Nat} {m : Me} {q : Pl} (h : OwnMe w base m q) {x : Addr} (hq : q.ha = some x) (hg : w.grownBy w' (some x.block)) {l : List UInt16}
    (ho : w'.ownsRow base 29 1 (.slice q.ha l.length q.hc) l.length (l.map b16)) : OwnMe w' base { m with holding := l } q :=
  ⟨own_grown h.coils hg (fun y hy e => h.ch y x hy hq e), own_grown h.inputs hg (fun y hy e => h.hi x y hq hy e.symm), ho, own_grown h.words hg (fun y hy e => h.hw x y hq hy e.symm), h.ci, h.ch, h.cw, h.hi, h.hw⟩
/-- The request's writing fits the tables. -/
structure WFits (m : Me) (a : Req) : Prop where
  bits : (bwN a.fn.toNat).isSome = true → 1 ≤ a.bits.length ∧ targetN a + a.bits.length ≤ m.coils.length
  words : (wwN a.fn.toNat).isSome = true → 1 ≤ a.words.length ∧ targetN a + a.words.length ≤ m.holding.length
theorem bw_ww {c : Nat} (h : bwN c = some 0) : wwN c = none := by
  unfold bwN at h
  unfold wwN
  split at h
  · rename_i e; subst e; rfl
  · split at h
    · rename_i e; subst e; rfl
    · cases h
/-- What is written. -/
def Writes (m : Me) (q : Pl) (base : Nat) (w : World) (e : Ending) (w' : World) : Prop := e = .returned (.tuple #[]) ∧ OwnMe w' base m q ∧ Turn w w' q
theorem grown_row {W W' : World} {g k : Nat} {o : Obj} (h : W.heap[k]? = some o) (hg : W.grownBy W' (some g)) (hne : k ≠ g) : W'.heap[k]? = some o :=
  (hg.block k (Array.getElem?_eq_some_iff.1 h).1 (fun e => hne (by injection e))).trans h

set_option maxRecDepth 100000 in
set_option maxHeartbeats 4000000 in
theorem write_any (s : Sp) (m : Me) (p q : Pl) (g base : Nat) (a : Req) (aw : Option Addr) (cw : Nat) (ab : Option Addr) (cb : Nat) (w : World)
    (hR : w.heap[g]? = some (.cells (srvC s m p q) 67 (0, 0))) (hO : OwnMe w base m q) (hA : AskAt w w.heap.size a aw cw ab cb) (hF : WFits m a) :
    Calls Try.prog 25 #[.pointer (some ⟨g, 0, none⟩), askV a aw cw ab cb] w (Writes (writeM m a) q base w) := by
  have hgl : g < w.heap.size := (Array.getElem?_eq_some_iff.1 hR).1
  have HGL := Lib.hid hgl
  have htl := target_lt a
  have hT := fun W => target_any a aw cw ab cb W
  have hf := a.fn.toNat_lt
  have HFB := Lib.hid hF.bits
  have HFW := Lib.hid hF.words
  have HWM : Hid (writeM m a = { m with coils := if (bwN a.fn.toNat).isSome then overN m.coils (targetN a) a.bits else m.coils, holding := if (wwN a.fn.toNat).isSome then overN m.holding (targetN a) a.words else m.holding }) := Lib.hid rfl
  have HO := Lib.hid hO
  have HRW := Lib.hid hR
  have HAB := Lib.hid hA.bits
  have HAW := Lib.hid hA.words
  generalize targetN a = tg at *
  obtain ⟨fn, at_, many, to_, words, bits⟩ := a
  simp only at *
  have hat := at_.toNat_lt
  have hmany := many.toNat_lt
  have hto := to_.toNat_lt
  have hb0 : Below w.heap.size w (w.alloc (.cells #[b8 fn, b16 at_, b16 many, b16 to_, .slice aw words.length cw, .slice ab bits.length cb] 31)) := (Below.refl _ _).alloc (Nat.le_refl _) _
  have hrow : (w.alloc (.cells #[b8 fn, b16 at_, b16 many, b16 to_, .slice aw words.length cw, .slice ab bits.length cb] 31)).heap[w.heap.size]? = some (.cells #[b8 fn, b16 at_, b16 many, b16 to_, .slice aw words.length cw, .slice ab bits.length cb] 31 (0, 0)) := heap_alloc_new w _
  have HT := Lib.hid hT
  clear hT hR hO hA hF hgl
  go_enter Try.func25, Try.ntmps25
  go_wp2_with fail
  have hsz : w.heap.size < (w.alloc (.cells #[b8 fn, b16 at_, b16 many, b16 to_, .slice aw words.length cw, .slice ab bits.length cb] 31)).heap.size := by simp
  generalize hg0 : w.alloc (.cells #[b8 fn, b16 at_, b16 many, b16 to_, .slice aw words.length cw, .slice ab bits.length cb] 31) = W0 at *
  clear hg0
  obtain ⟨u1, hu1⟩ : ∃ u, u = ptr g (brN fn.toNat) := ⟨_, rfl⟩
  obtain ⟨u2, hu2⟩ : ∃ u, u = ptr g (bwN fn.toNat) := ⟨_, rfl⟩
  obtain ⟨u3, hu3⟩ : ∃ u, u = ptr g (wrN fn.toNat) := ⟨_, rfl⟩
  obtain ⟨u4, hu4⟩ : ∃ u, u = ptr g (wwN fn.toNat) := ⟨_, rfl⟩
  have HUV : Hid (useV g fn.toNat = .agg #[.pointer u1, .pointer u2, .pointer u3, .pointer u4]) := Lib.hid (by unfold useV; rw [hu1, hu2, hu3, hu4])
  have HU1 := Lib.hid (And.intro hu1 (And.intro hu2 (And.intro hu3 hu4)))
  clear hu1 hu2 hu3 hu4
  have HR0 : Hid (Row6 W0 w.heap.size #[b8 fn, b16 at_, b16 many, b16 to_, .slice aw words.length cw, .slice ab bits.length cb]) := Lib.hid ⟨hrow⟩
  have HB0 := Lib.hid hb0
  have HUS : Hid (∀ W, Below w.heap.size w W → Calls Try.prog 44 #[.pointer (some ⟨g, 0, none⟩)] W (MapIs g W)) := Lib.hid fun W hb => uses_at g W (Nat.lt_of_lt_of_le HGL.out hb.size)
  have hk0 := HR0.out.all
  have hk1 : (W0.drew.cell? ⟨w.heap.size, 0, none⟩ = some (b8 fn) ∧ W0.drew.cell? ⟨w.heap.size, 1, none⟩ = some (b16 at_) ∧ W0.drew.cell? ⟨w.heap.size, 2, none⟩ = some (b16 many) ∧ W0.drew.cell? ⟨w.heap.size, 3, none⟩ = some (b16 to_) ∧ W0.drew.cell? ⟨w.heap.size, 4, none⟩ = some (.slice aw words.length cw) ∧ W0.drew.cell? ⟨w.heap.size, 5, none⟩ = some (.slice ab bits.length cb)) := hk0
  have HRA : Hid (Row6 (W0.alloc (.cells #[.pointer none, .pointer none, .pointer none, .pointer none] 97)).drew w.heap.size #[b8 fn, b16 at_, b16 many, b16 to_, .slice aw words.length cw, .slice ab bits.length cb]) := Lib.hid (HR0.out.on (((Below.refl _ _).alloc (Nat.le_refl _) _).drew))
  have hk2 := HRA.out.all
  have HBA : Hid (Below w.heap.size w (W0.alloc (.cells #[.pointer none, .pointer none, .pointer none, .pointer none] 97)).drew) := Lib.hid ((HB0.out.alloc HB0.out.size _).drew)
  have HBD : Hid (Below w.heap.size w W0.drew) := Lib.hid HB0.out.drew
  have HRD : Hid (Row6 W0.drew w.heap.size #[b8 fn, b16 at_, b16 many, b16 to_, .slice aw words.length cw, .slice ab bits.length cb]) := Lib.hid ⟨HR0.out.row⟩
  have HSZ := Lib.hid hsz
  have hwa : IntKind.i64.wrap (at_.toNat : Int) = (at_.toNat : Int) := wrap64 (by omega) (by omega)
  have hwm : IntKind.i64.wrap (many.toNat : Int) = (many.toNat : Int) := wrap64 (by omega) (by omega)
  clear hb0 hrow hsz
  go_region_held3 (fun w' => w'.cell? ⟨w.heap.size, 0, none⟩ = some (b8 fn) ∧ w'.cell? ⟨w.heap.size, 1, none⟩ = some (b16 at_) ∧ w'.cell? ⟨w.heap.size, 2, none⟩ = some (b16 many) ∧ w'.cell? ⟨w.heap.size, 3, none⟩ = some (b16 to_) ∧ w'.cell? ⟨w.heap.size, 4, none⟩ = some (.slice aw words.length cw) ∧ w'.cell? ⟨w.heap.size, 5, none⟩ = some (.slice ab bits.length cb))
    (first
      | with_reducible exact hk0
      | with_reducible exact hk1
      | with_reducible exact hk2
      | with_reducible exact hkU
      | with_reducible exact hkUA
      | with_reducible exact hkT
      | with_reducible exact hkTA
      | with_reducible exact hkS
      | go_keep)
    (first
      | (revert HBD; intro HBD; go_at_call 44; (with_reducible refine (HUS.out W0.drew HBD.out).mono ?_); rintro e wU ⟨b, rfl, hbl, hbw, hlk⟩; have HRU := Lib.hid (HRD.out.on hbw); have hkU := HRU.out.all; have HBU := Lib.hid (HBD.out.trans (hbw.mono HBD.out.size)); have HLK := Lib.hid hlk; have hl0 := hlk wU (Below.refl _ _) fn.toNat hf; have hl1 := hlk (wU.alloc (.cells #[.pointer none, .pointer none, .pointer none, .pointer none] 97)) ((Below.refl _ _).alloc (Nat.le_refl _) _) fn.toNat hf; rw [HUV.out] at hl0 hl1; have HRUA : Hid (Row6 (wU.alloc (.cells #[.pointer none, .pointer none, .pointer none, .pointer none] 97)) w.heap.size #[b8 fn, b16 at_, b16 many, b16 to_, .slice aw words.length cw, .slice ab bits.length cb]) := Lib.hid (HRU.out.on ((Below.refl _ _).alloc (Nat.le_refl _) _)); have hkUA := HRUA.out.all; clear hlk hbw HBD)
      | (revert HBA; intro HBA; go_at_call 44; (with_reducible refine (HUS.out _ HBA.out).mono ?_); rintro e wU ⟨b, rfl, hbl, hbw, hlk⟩; have HRU := Lib.hid (HRA.out.on hbw); have hkU := HRU.out.all; have HBU := Lib.hid (HBA.out.trans (hbw.mono HBA.out.size)); have HLK := Lib.hid hlk; have hl0 := hlk wU (Below.refl _ _) fn.toNat hf; rw [HUV.out] at hl0; have hrU : Hid (wU.heap[W0.heap.size]? = some (.cells #[.pointer none, .pointer none, .pointer none, .pointer none] 97 (0, 0))) := Lib.hid ((hbw.block _ (by simp)).trans (show (W0.alloc (.cells #[.pointer none, .pointer none, .pointer none, .pointer none] 97)).drew.heap[W0.heap.size]? = _ from heap_alloc_new W0 _)); clear hlk hbw HBA)
      | (revert hrU; intro hrU; go_at_call 45; (with_reducible refine (HT.out wU).mono ?_); rintro e wT ⟨rfl, hbT⟩; have HRT := Lib.hid (HRU.out.on hbT); have hkT := HRT.out.all; have HBT := Lib.hid (HBU.out.trans (hbT.mono HBU.out.size)); have hl2 := HLK.out wT hbT fn.toNat hf; rw [HUV.out] at hl2; have hrT : Hid (wT.heap[W0.heap.size]? = some (.cells #[.pointer none, .pointer none, .pointer none, .pointer none] 97 (0, 0))) := Lib.hid ((hbT.block _ (Array.getElem?_eq_some_iff.1 hrU.out).1).trans hrU.out); obtain ⟨hv0, hv1, hv2, hv3, hz0⟩ := four_cells hrT.out; have HAL := Lib.hid (AL.fill (u1 := .pointer u1) (u2 := .pointer u2) (u3 := .pointer u3) (u4 := .pointer u4) HBT.out HRT.out hrT.out HSZ.out); have hkS := HAL.out.ask.all; clear hbT hrU HRU)
      | (revert HRU; intro HRU; go_at_call 45; (with_reducible refine (HT.out wU).mono ?_); rintro e wT ⟨rfl, hbT⟩; have HRT := Lib.hid (HRU.out.on hbT); have hkT := HRT.out.all; have HBT := Lib.hid (HBU.out.trans (hbT.mono HBU.out.size)); have hl2 := HLK.out wT hbT fn.toNat hf; have hl3 := HLK.out (wT.alloc (.cells #[.pointer none, .pointer none, .pointer none, .pointer none] 97)) (hbT.alloc hbT.size _) fn.toNat hf; rw [HUV.out] at hl2 hl3; have HRTA : Hid (Row6 (wT.alloc (.cells #[.pointer none, .pointer none, .pointer none, .pointer none] 97)) w.heap.size #[b8 fn, b16 at_, b16 many, b16 to_, .slice aw words.length cw, .slice ab bits.length cb]) := Lib.hid (HRT.out.on ((Below.refl _ _).alloc (Nat.le_refl _) _)); have hkTA := HRTA.out.all; have HAL := Lib.hid (AL.lay (u := #[.pointer u1, .pointer u2, .pointer u3, .pointer u4]) HBT.out HRT.out); have hkS := HAL.out.ask.all; clear hbT HRU)
      | (revert HRUA; intro HRUA; go_at_call 45; (with_reducible refine (HT.out (wU.alloc (.cells #[.pointer none, .pointer none, .pointer none, .pointer none] 97))).mono ?_); rintro e wT ⟨rfl, hbT⟩; have HRT := Lib.hid (HRUA.out.on hbT); have hkT := HRT.out.all; have HBT := Lib.hid ((HBU.out.alloc HBU.out.size (.cells #[.pointer none, .pointer none, .pointer none, .pointer none] 97)).trans (hbT.mono (by have := HBU.out.size; simp; omega))); have hl2 := HLK.out wT (((Below.refl wU.heap.size wU).alloc (Nat.le_refl _) (.cells #[.pointer none, .pointer none, .pointer none, .pointer none] 97)).trans (hbT.mono (by simp))) fn.toNat hf; rw [HUV.out] at hl2; have hrT : Hid (wT.heap[wU.heap.size]? = some (.cells #[.pointer none, .pointer none, .pointer none, .pointer none] 97 (0, 0))) := Lib.hid ((hbT.block _ (by simp)).trans (heap_alloc_new wU _)); obtain ⟨hv0, hv1, hv2, hv3, hz0⟩ := four_cells hrT.out; have HAL := Lib.hid (AL.fill (u1 := .pointer u1) (u2 := .pointer u2) (u3 := .pointer u3) (u4 := .pointer u4) HBT.out HRT.out hrT.out HRU.out.lt); have hkS := HAL.out.ask.all; clear hbT HRUA))
  all_goals
    clear hk0 hk1 hkS hkT HR0 HRA HRD HUS HLK HRT HBT HSZ HUV
    first
      | (have HQ : Hid (AL w (wT.alloc (.cells #[.pointer u1, .pointer u2, .pointer u3, .pointer u4] 97)) #[b8 fn, b16 at_, b16 many, b16 to_, .slice aw words.length cw, .slice ab bits.length cb] (wT.heap.size) #[.pointer u1, .pointer u2, .pointer u3, .pointer u4]) := (by with_reducible exact HAL); clear HAL; generalize wT.alloc (.cells #[.pointer u1, .pointer u2, .pointer u3, .pointer u4] 97) = WE at *; generalize wT.heap.size = bz at *)
      | (have HQ : Hid (AL w ((((wT.setCell ⟨wU.heap.size, 0, none⟩ (.pointer u1)).setCell ⟨wU.heap.size, 1, none⟩ (.pointer u2)).setCell ⟨wU.heap.size, 2, none⟩ (.pointer u3)).setCell ⟨wU.heap.size, 3, none⟩ (.pointer u4)) #[b8 fn, b16 at_, b16 many, b16 to_, .slice aw words.length cw, .slice ab bits.length cb] (wU.heap.size) #[.pointer u1, .pointer u2, .pointer u3, .pointer u4]) := (by with_reducible exact HAL); clear HAL; generalize ((((wT.setCell ⟨wU.heap.size, 0, none⟩ (.pointer u1)).setCell ⟨wU.heap.size, 1, none⟩ (.pointer u2)).setCell ⟨wU.heap.size, 2, none⟩ (.pointer u3)).setCell ⟨wU.heap.size, 3, none⟩ (.pointer u4)) = WE at *; generalize wU.heap.size = bz at *)
      | (have HQ : Hid (AL w ((((wT.setCell ⟨W0.heap.size, 0, none⟩ (.pointer u1)).setCell ⟨W0.heap.size, 1, none⟩ (.pointer u2)).setCell ⟨W0.heap.size, 2, none⟩ (.pointer u3)).setCell ⟨W0.heap.size, 3, none⟩ (.pointer u4)) #[b8 fn, b16 at_, b16 many, b16 to_, .slice aw words.length cw, .slice ab bits.length cb] (W0.heap.size) #[.pointer u1, .pointer u2, .pointer u3, .pointer u4]) := (by with_reducible exact HAL); clear HAL; generalize ((((wT.setCell ⟨W0.heap.size, 0, none⟩ (.pointer u1)).setCell ⟨W0.heap.size, 1, none⟩ (.pointer u2)).setCell ⟨W0.heap.size, 2, none⟩ (.pointer u3)).setCell ⟨W0.heap.size, 3, none⟩ (.pointer u4)) = WE at *; generalize W0.heap.size = bz at *)
    have HL0 : Hid (AL w WE #[b8 fn, b16 at_, b16 many, b16 to_, .slice aw words.length cw, .slice ab bits.length cb] bz #[.pointer u1, .pointer u2, .pointer u3, .pointer u4]) := HQ
    clear HQ
    obtain ⟨p0, p1, p2, p3⟩ := HL0.out.ptrs
    obtain ⟨-, -, -, -, -, q5⟩ := HL0.out.ask.all
    clear p0 p2 p3
    have HB := Lib.hid HL0.out.below
    have HUSE := Lib.hid HL0.out.use
    have HASK := Lib.hid HL0.out.ask.row
    have HOW := Lib.hid (HO.out.on HL0.out.below)
    have HRWE := Lib.hid (row_cell HRW.out HL0.out.below)
    have HBL := Lib.hid HL0.out.gt
    have hbzl : bz < WE.heap.size := (Array.getElem?_eq_some_iff.1 HL0.out.use).1
    rcases bw_cases fn.toNat with hbw | hbw
    · have hu2 : u2 = none := by rw [HU1.out.2.1, hbw]; rfl
      subst hu2
      have HN1 := Lib.hid (write_nil_bits tg (.slice ab bits.length cb) WE)
      go_wp2_with fail
      refine HN1.out.mono ?_
      rintro e w1 ⟨rfl, rfl⟩
      clear HN1 p1 q5
      obtain ⟨p0, p1, p2, p3⟩ := HL0.out.ptrs
      obtain ⟨-, -, -, -, q4, -⟩ := HL0.out.ask.all
      clear p0 p1 p2
      rcases ww_cases fn.toNat with hww | hww
      · have hu4 : u4 = none := by rw [HU1.out.2.2.2, hww]; rfl
        subst hu4
        have HN2 := Lib.hid (write_nil_regs tg (.slice aw words.length cw) w1)
        go_wp2_with fail
        refine HN2.out.mono ?_
        rintro e w2 ⟨rfl, rfl⟩
        go_wp2_with fail
        go_end0
        refine ⟨rfl, ?_, Turn.of_below HB.out⟩
        rw [HWM.out, hbw, hww]
        exact HOW.out
      · have hu4 : u4 = some ⟨g, 4, none⟩ := by rw [HU1.out.2.2.2, hww]; rfl
        subst hu4
        obtain ⟨h1, h2⟩ := HFW.out (by rw [hww]; rfl)
        obtain ⟨gb, c, hv⟩ := own_some HOW.out.holding (by omega)
        injection hv with hq _ hc
        have hcell : w1.cell? ⟨g, 4 + 1, none⟩ = some (.slice (some ⟨gb, 0, none⟩) m.holding.length q.hc) := by rw [← hq]; exact cell_of_row _ _ _ _ _ _ HRWE.out
        have hown := HOW.out.holding
        rw [hq] at hown
        have HN2 := Lib.hid (write_regs g 4 base gb _ _ m.holding tg aw words.length cw words w1 hcell hown (HAW.out.below HB.out (Nat.le_refl _)) h1 h2)
        go_wp2_with fail
        refine HN2.out.mono ?_
        rintro e w2 ⟨rfl, hov, hgr⟩
        go_wp2_with fail
        go_end0
        refine ⟨rfl, ?_, Turn.then_holding HB.out hgr hq⟩
        rw [HWM.out, hbw, hww]
        have hl := over_length m.holding tg words h2
        refine HOW.out.set_holding hq hgr ?_
        show w2.ownsRow base _ 1 (.slice q.ha (overN m.holding tg words).length q.hc) (overN m.holding tg words).length ((overN m.holding tg words).map b16)
        rw [hl, hq]
        exact hov
    · have hww := bw_ww hbw
      have hu2 : u2 = some ⟨g, 0, none⟩ := by rw [HU1.out.2.1, hbw]; rfl
      have hu4 : u4 = none := by rw [HU1.out.2.2.2, hww]; rfl
      subst hu2 hu4
      obtain ⟨h1, h2⟩ := HFB.out (by rw [hbw]; rfl)
      obtain ⟨gb, c, hv⟩ := own_some HOW.out.coils (by omega)
      injection hv with hq _ hc
      have hcell : WE.cell? ⟨g, 0 + 1, none⟩ = some (.slice (some ⟨gb, 0, none⟩) m.coils.length q.cc) := by rw [← hq]; exact cell_of_row _ _ _ _ _ _ HRWE.out
      have hown := HOW.out.coils
      rw [hq] at hown
      have hgb : gb < w.heap.size := by
        have := HO.out.coils
        rw [hq] at this
        exact (own_block this).2
      have HN1 := Lib.hid (write_bits g 0 base gb _ _ m.coils tg ab bits.length cb bits WE hcell hown (HAB.out.below HB.out (Nat.le_refl _)) h1 h2)
      go_wp2_with fail
      refine HN1.out.mono ?_
      rintro e w1 ⟨rfl, hov, hgr⟩
      have HOV := Lib.hid (And.intro hov hgr)
      have hus := grown_row HUSE.out hgr (by have := HBL.out; omega)
      have has := grown_row HASK.out hgr (by omega)
      have p3 : w1.cell? ⟨bz, 3, none⟩ = some (.pointer none) := cell_of_row _ _ _ _ _ _ hus
      have q4 : w1.cell? ⟨w.heap.size, 4, none⟩ = some (.slice aw words.length cw) := cell_of_row _ _ _ _ _ _ has
      clear hov hgr hus has hcell hown p1 q5
      have HN2 := Lib.hid (write_nil_regs tg (.slice aw words.length cw) w1)
      go_wp2_with fail
      refine HN2.out.mono ?_
      rintro e w2 ⟨rfl, rfl⟩
      go_wp2_with fail
      go_end0
      refine ⟨rfl, ?_, Turn.then_coils HB.out HOV.out.2 hq⟩
      rw [HWM.out, hbw, hww]
      have hl := over_length m.coils tg bits h2
      refine HOW.out.set_coils hq HOV.out.2 ?_
      show w2.ownsRow base _ 1 (.slice q.ca (overN m.coils tg bits).length q.cc) (overN m.coils tg bits).length ((overN m.coils tg bits).map Value.bool)
      rw [hl, hq]
      exact HOV.out.1
end Go.Proofs.Ytamdpinfbadflaa.ModW

/- What a request is answered with. -/
open Go.RowKit
namespace Go.Proofs.Ytamdpinfbadflaa.ModM
open AskM ReplyM ReplyW
def readB (m : Me) (o : Option Nat) (at_ n : Nat) : List Bool := match o with | none => [] | some k => padN (((m.bits k).drop at_).take n)
def readW (m : Me) (o : Option Nat) (at_ n : Nat) : List UInt16 := match o with | none => [] | some k => ((m.regs k).drop at_).take n
def answerM (m : Me) (a : Req) : Rep := match echoN a with
  | some r => r
  | none => ⟨a.fn, 0, (readB m (brN a.fn.toNat) a.at_.toNat a.many.toNat), (readW m (wrN a.fn.toNat) a.at_.toNat a.many.toNat), 0, 0⟩
end Go.Proofs.Ytamdpinfbadflaa.ModM
namespace Go.Proofs.Ytamdpinfbadflaa.ModW
open AskM ReplyM ModM Mem AskW ReplyW

/-- Behind a region that asks the map: the request's box, wherever it lies, and the row of pointers. -/
structure AL2 (w W : World) (k : Nat) (c : Array Value) (b : Nat) (u : Array Value) : Prop where
  below : Below w.heap.size w W
  ask : Row6 W k c
  use : W.heap[b]? = some (.cells u 97 (0, 0))
  gt : w.heap.size ≤ b
theorem AL2.on {w W W' : World} {c u : Array Value} {k b : Nat} (h : AL2 w W k c b u) (hb : Below W.heap.size W W') : AL2 w W' k c b u :=
  ⟨h.below.trans (hb.mono h.below.size), h.ask.on hb, (hb.block b (Array.getElem?_eq_some_iff.1 h.use).1).trans h.use, h.gt⟩
theorem AL2.fill {w W : World} {c : Array Value} {k b : Nat} {u1 u2 u3 u4 : Value} (hb : Below w.heap.size w W) (ha : Row6 W k c) (hz : W.heap[b]? = some (.cells #[.pointer none, .pointer none, .pointer none, .pointer none] 97 (0, 0))) (hk : k < w.heap.size) (hlt : w.heap.size ≤ b) :
    AL2 w ((((W.setCell ⟨b, 0, none⟩ u1).setCell ⟨b, 1, none⟩ u2).setCell ⟨b, 2, none⟩ u3).setCell ⟨b, 3, none⟩ u4) k c b #[u1, u2, u3, u4] := by
  have hne : k ≠ b := by omega
  refine ⟨(((hb.setCell (p := ⟨b, 0, none⟩) hlt u1).setCell (p := ⟨b, 1, none⟩) hlt u2).setCell (p := ⟨b, 2, none⟩) hlt u3).setCell (p := ⟨b, 3, none⟩) hlt u4, ⟨?_⟩, ?_, hlt⟩
  · rw [Below.heap_setCell _ _ _ _ hne, Below.heap_setCell _ _ _ _ hne, Below.heap_setCell _ _ _ _ hne, Below.heap_setCell _ _ _ _ hne]
    exact ha.row
  · exact heap_setCell_same _ _ _ _ _ _ (heap_setCell_same _ _ _ _ _ _ (heap_setCell_same _ _ _ _ _ _ (heap_setCell_same _ _ _ _ _ _ hz)))
theorem AL2.lay {w W : World} {c : Array Value} {k : Nat} {u : Array Value} (hb : Below w.heap.size w W) (ha : Row6 W k c) : AL2 w (W.alloc (.cells u 97)) k c W.heap.size u :=
  ⟨hb.alloc hb.size _, ha.on ((Below.refl _ _).alloc (Nat.le_refl _) _), heap_alloc_new W _, hb.size⟩
theorem AL2.ptrs {w W : World} {c : Array Value} {k b : Nat} {u1 u2 u3 u4 : Value} (h : AL2 w W k c b #[u1, u2, u3, u4]) : W.cell? ⟨b, 0, none⟩ = some u1 ∧ W.cell? ⟨b, 1, none⟩ = some u2 ∧ W.cell? ⟨b, 2, none⟩ = some u3 ∧ W.cell? ⟨b, 3, none⟩ = some u4 :=
  ⟨cell_of_row _ _ _ _ _ _ h.use, cell_of_row _ _ _ _ _ _ h.use, cell_of_row _ _ _ _ _ _ h.use, cell_of_row _ _ _ _ _ _ h.use⟩
/-- A row of six, as it lies. -/
theorem six_cells {W : World} {g : Nat} {c0 c1 c2 c3 c4 c5 : Value} {T : TypeId} (h : W.heap[g]? = some (.cells #[c0, c1, c2, c3, c4, c5] T (0, 0))) :
    W.cell? ⟨g, 0, none⟩ = some c0 ∧ W.cell? ⟨g, 1, none⟩ = some c1 ∧ W.cell? ⟨g, 2, none⟩ = some c2 ∧ W.cell? ⟨g, 3, none⟩ = some c3 ∧ W.cell? ⟨g, 4, none⟩ = some c4 ∧ W.cell? ⟨g, 5, none⟩ = some c5 ∧ ∀ i, W.frozen? ⟨g, i, none⟩ = false :=
  ⟨cell_of_row _ _ _ _ _ _ h, cell_of_row _ _ _ _ _ _ h, cell_of_row _ _ _ _ _ _ h, cell_of_row _ _ _ _ _ _ h, cell_of_row _ _ _ _ _ _ h, cell_of_row _ _ _ _ _ _ h, fun _ => frozen_of_row _ _ _ _ _ h⟩
def set6 (W : World) (g : Nat) (v0 v1 v2 v3 v4 v5 : Value) : World := (((((W.setCell ⟨g, 0, none⟩ v0).setCell ⟨g, 1, none⟩ v1).setCell ⟨g, 2, none⟩ v2).setCell ⟨g, 3, none⟩ v3).setCell ⟨g, 4, none⟩ v4).setCell ⟨g, 5, none⟩ v5
theorem set6_row {W : World} {g : Nat} {c0 c1 c2 c3 c4 c5 v0 v1 v2 v3 v4 v5 : Value} {T : TypeId} (h : W.heap[g]? = some (.cells #[c0, c1, c2, c3, c4, c5] T (0, 0))) : (set6 W g v0 v1 v2 v3 v4 v5).heap[g]? = some (.cells #[v0, v1, v2, v3, v4, v5] T (0, 0)) :=
  heap_setCell_same _ _ _ _ _ _ (heap_setCell_same _ _ _ _ _ _ (heap_setCell_same _ _ _ _ _ _ (heap_setCell_same _ _ _ _ _ _ (heap_setCell_same _ _ _ _ _ _ (heap_setCell_same _ _ _ _ _ _ h)))))
theorem set6_below {B : Nat} {w W : World} {g : Nat} {v0 v1 v2 v3 v4 v5 : Value} (h : Below B w W) (hg : B ≤ g) : Below B w (set6 W g v0 v1 v2 v3 v4 v5) :=
  (((((h.setCell (p := ⟨g, 0, none⟩) hg v0).setCell (p := ⟨g, 1, none⟩) hg v1).setCell (p := ⟨g, 2, none⟩) hg v2).setCell (p := ⟨g, 3, none⟩) hg v3).setCell (p := ⟨g, 4, none⟩) hg v4).setCell (p := ⟨g, 5, none⟩) hg v5
theorem set6_size {W : World} {g : Nat} {v0 v1 v2 v3 v4 v5 : Value} : (set6 W g v0 v1 v2 v3 v4 v5).heap.size = W.heap.size := by unfold set6; simp only [World.size_setCell]
theorem set6_other {W : World} {g k : Nat} {v0 v1 v2 v3 v4 v5 : Value} (h : k ≠ g) : (set6 W g v0 v1 v2 v3 v4 v5).heap[k]? = W.heap[k]? := by
  unfold set6
  rw [Below.heap_setCell _ _ _ _ h, Below.heap_setCell _ _ _ _ h, Below.heap_setCell _ _ _ _ h, Below.heap_setCell _ _ _ _ h, Below.heap_setCell _ _ _ _ h, Below.heap_setCell _ _ _ _ h]
theorem set6_sl {α : Type} {f : α → Value} {W : World} {g B n c : Nat} {a : Option Addr} {l : List α} {v0 v1 v2 v3 v4 v5 : Value} (h : Sl f W B a n c l) (hne : ∀ x : Addr, a = some x → x.block ≠ g) : Sl f (set6 W g v0 v1 v2 v3 v4 v5) B a n c l := by
  unfold set6
  exact (((((h.set hne).set hne).set hne).set hne).set hne).set hne
/-- The call answers r; nothing that was there is written. -/
def Answers (r : Rep) (w : World) (e : Ending) (w' : World) : Prop := ∃ aw cw ab cb, e = .returned (repV r aw cw ab cb) ∧ RepAt w' w'.heap.size r aw cw ab cb ∧ Below w.heap.size w w' ∧ ∀ x : Addr, aw = some x ∨ ab = some x → w.heap.size ≤ x.block
/-- What is read lies in the tables. -/
structure RFits (m : Me) (a : Req) : Prop where
  bits : ∀ k, brN a.fn.toNat = some k → 1 ≤ a.many.toNat ∧ a.at_.toNat + a.many.toNat ≤ (m.bits k).length
  regs : ∀ k, wrN a.fn.toNat = some k → 1 ≤ a.many.toNat ∧ a.at_.toNat + a.many.toNat ≤ (m.regs k).length
theorem rd_bits {W : World} {g : Nat} {s : Sp} {m : Me} {p q : Pl} (hR : W.heap[g]? = some (.cells (srvC s m p q) 67 (0, 0))) (hM : MeAt W W.heap.size m q) (k : Option Nat) (hk : k = none ∨ k = some 0 ∨ k = some 1) (at_ n : Nat) (hn : n ≤ 65535)
    (hf : ∀ j, k = some j → 1 ≤ n ∧ at_ + n ≤ (m.bits j).length) :
    Calls Try.prog 48 #[.pointer (ptr g k), .int .i64 (at_ : Int), .int .i64 (n : Int), .int .i64 8] W (Fresh Value.bool (readB m k at_ n) W) := by
  have hg := (Array.getElem?_eq_some_iff.1 hR).1
  rcases hk with rfl | rfl | rfl
  · exact read_nil_bits at_ n 8 W
  · obtain ⟨h1, h2⟩ := hf 0 rfl
    exact read_bits g 0 _ _ _ m.coils at_ n W hg (cell_of_row _ _ _ _ _ _ hR) hM.coils h1 hn h2
  · obtain ⟨h1, h2⟩ := hf 1 rfl
    exact read_bits g 2 _ _ _ m.inputs at_ n W hg (cell_of_row _ _ _ _ _ _ hR) hM.inputs h1 hn h2
theorem rd_regs {W : World} {g : Nat} {s : Sp} {m : Me} {p q : Pl} (hR : W.heap[g]? = some (.cells (srvC s m p q) 67 (0, 0))) (hM : MeAt W W.heap.size m q) (k : Option Nat) (hk : k = none ∨ k = some 2 ∨ k = some 3) (at_ n : Nat) (hn : n ≤ 65535)
    (hf : ∀ j, k = some j → 1 ≤ n ∧ at_ + n ≤ (m.regs j).length) :
    Calls Try.prog 49 #[.pointer (ptr g k), .int .i64 (at_ : Int), .int .i64 (n : Int), .int .i64 1] W (Fresh b16 (readW m k at_ n) W) := by
  have hg := (Array.getElem?_eq_some_iff.1 hR).1
  rcases hk with rfl | rfl | rfl
  · exact read_nil_regs at_ n 1 W
  · obtain ⟨h1, h2⟩ := hf 2 rfl
    exact read_regs g 4 _ _ _ m.holding at_ n W hg (cell_of_row _ _ _ _ _ _ hR) hM.holding h1 hn h2
  · obtain ⟨h1, h2⟩ := hf 3 rfl
    exact read_regs g 6 _ _ _ m.words at_ n W hg (cell_of_row _ _ _ _ _ _ hR) hM.words h1 hn h2

set_option maxRecDepth 100000 in
set_option maxHeartbeats 4000000 in
theorem answer_any (s : Sp) (m : Me) (p q : Pl) (g : Nat) (a : Req) (aw : Option Addr) (cw : Nat) (ab : Option Addr) (cb : Nat) (w : World)
    (hR : w.heap[g]? = some (.cells (srvC s m p q) 67 (0, 0))) (hM : MeAt w w.heap.size m q) (hA : AskAt w w.heap.size a aw cw ab cb) (hF : RFits m a) (hnw : a.words.length ≤ 65535) (hnb : a.bits.length ≤ 65535) :
    Calls Try.prog 26 #[.pointer (some ⟨g, 0, none⟩), askV a aw cw ab cb] w (Answers (answerM m a) w) := by
  have HGL := Lib.hid (show g < w.heap.size from (Array.getElem?_eq_some_iff.1 hR).1)
  have HE := Lib.hid (fun W (h : Below w.heap.size w W) => Echo_any a aw cw ab cb W ⟨(hA.words.below h (Nat.le_refl _)).more h.size, (hA.bits.below h (Nat.le_refl _)).more h.size⟩ (by omega) (by omega))
  have HAM : Hid (answerM m a = match echoN a with | some r => r | none => ⟨a.fn, 0, (readB m (brN a.fn.toNat) a.at_.toNat a.many.toNat), (readW m (wrN a.fn.toNat) a.at_.toNat a.many.toNat), 0, 0⟩) := Lib.hid rfl
  have HR := Lib.hid hR
  have HM := Lib.hid hM
  have HF := Lib.hid hF
  have hf := a.fn.toNat_lt
  generalize echoN a = er at *
  obtain ⟨fn, at_, many, to_, words, bits⟩ := a
  simp only at *
  have hat := at_.toNat_lt
  have hmany := many.toNat_lt
  have hb0 : Below w.heap.size w ((w.alloc (.cells #[b8 fn, b16 at_, b16 many, b16 to_, .slice aw words.length cw, .slice ab bits.length cb] 31)).alloc (.cells #[.int .u8 0, .int .u8 0, .slice none 0 0, .slice none 0 0, .int .u16 0, .int .u16 0] 36)) := below_two w _ _
  have hr0 : ((w.alloc (.cells #[b8 fn, b16 at_, b16 many, b16 to_, .slice aw words.length cw, .slice ab bits.length cb] 31)).alloc (.cells #[.int .u8 0, .int .u8 0, .slice none 0 0, .slice none 0 0, .int .u16 0, .int .u16 0] 36)).heap[w.heap.size]? = some (.cells #[b8 fn, b16 at_, b16 many, b16 to_, .slice aw words.length cw, .slice ab bits.length cb] 31 (0, 0)) := (Below.heap_alloc _ _ _ (by simp)).trans (heap_alloc_new w _)
  have hr1 := at_one w (.cells #[b8 fn, b16 at_, b16 many, b16 to_, .slice aw words.length cw, .slice ab bits.length cb] 31) (.cells #[.int .u8 0, .int .u8 0, .slice none 0 0, .slice none 0 0, .int .u16 0, .int .u16 0] 36)
  clear hR hM hA hF
  go_enter Try.func26, Try.ntmps26
  go_wp2_with fail
  generalize (w.alloc (.cells #[b8 fn, b16 at_, b16 many, b16 to_, .slice aw words.length cw, .slice ab bits.length cb] 31)).alloc (.cells #[.int .u8 0, .int .u8 0, .slice none 0 0, .slice none 0 0, .int .u16 0, .int .u16 0] 36) = WA at *
  have HB0 := Lib.hid hb0
  have HRA := Lib.hid (And.intro hr0 hr1)
  clear hb0 hr0 hr1
  refine (HE.out WA HB0.out).mono ?_
  clear HE
  rintro e w1 hread
  obtain ⟨rw, dw, rb, db, rfl, hrep, hb, hfx⟩ := hread
  have hlt0 : w.heap.size + 1 < WA.heap.size := (Array.getElem?_eq_some_iff.1 HRA.out.2).1
  have HFX : Hid (∀ x : Addr, rw = some x ∨ rb = some x → x.block ≠ w.heap.size + 1) := Lib.hid fun x hx e => by have := hfx x hx; omega
  have HFY : Hid (∀ x : Addr, rw = some x ∨ rb = some x → w.heap.size ≤ x.block) := Lib.hid fun x hx => by have := hfx x hx; omega
  clear hfx hlt0
  have HB1 := Lib.hid (HB0.out.trans (hb.mono HB0.out.size))
  have HR1 := Lib.hid (And.intro (row_cell HRA.out.1 hb) (row_cell HRA.out.2 hb))
  have HREP := Lib.hid hrep
  clear hb hrep HB0 HRA
  cases er with
  | some r =>
    obtain ⟨f1, x1, bs, ws, a1, n1⟩ := r
    simp only [Option.getD_some, Option.isSome_some] at HREP ⊢
    have hWR : Hid ((w1.alloc (.cells #[.int .u8 (f1.toNat : Int), .int .u8 (x1.toNat : Int), .slice rb bs.length db, .slice rw ws.length dw, .int .u16 (a1.toNat : Int), .int .u16 (n1.toNat : Int)] 36)).heap[w.heap.size + 1]? = some (.cells #[.int .u8 0, .int .u8 0, .slice none 0 0, .slice none 0 0, .int .u16 0, .int .u16 0] 36 (0, 0))) := Lib.hid (row_cell HR1.out.2 ((Below.refl _ _).alloc (Nat.le_refl _) _))
    obtain ⟨v0, v1, v2, v3, v4, v5, z⟩ := six_cells hWR.out
    have hlt := (Array.getElem?_eq_some_iff.1 HR1.out.2).1
    have HS1 : Hid ((set6 (w1.alloc (.cells #[.int .u8 (f1.toNat : Int), .int .u8 (x1.toNat : Int), .slice rb bs.length db, .slice rw ws.length dw, .int .u16 (a1.toNat : Int), .int .u16 (n1.toNat : Int)] 36)) (w.heap.size + 1) (.int .u8 (f1.toNat : Int)) (.int .u8 (x1.toNat : Int)) (.slice rb bs.length db) (.slice rw ws.length dw) (.int .u16 (a1.toNat : Int)) (.int .u16 (n1.toNat : Int))).heap[w.heap.size + 1]? = some (.cells #[.int .u8 (f1.toNat : Int), .int .u8 (x1.toNat : Int), .slice rb bs.length db, .slice rw ws.length dw, .int .u16 (a1.toNat : Int), .int .u16 (n1.toNat : Int)] 36 (0, 0))) := Lib.hid (set6_row hWR.out)
    have HS2 : Hid (Below w.heap.size w (set6 (w1.alloc (.cells #[.int .u8 (f1.toNat : Int), .int .u8 (x1.toNat : Int), .slice rb bs.length db, .slice rw ws.length dw, .int .u16 (a1.toNat : Int), .int .u16 (n1.toNat : Int)] 36)) (w.heap.size + 1) (.int .u8 (f1.toNat : Int)) (.int .u8 (x1.toNat : Int)) (.slice rb bs.length db) (.slice rw ws.length dw) (.int .u16 (a1.toNat : Int)) (.int .u16 (n1.toNat : Int)))) := Lib.hid (set6_below (HB1.out.alloc HB1.out.size _) (by omega))
    have HS3 : Hid (RepAt (set6 (w1.alloc (.cells #[.int .u8 (f1.toNat : Int), .int .u8 (x1.toNat : Int), .slice rb bs.length db, .slice rw ws.length dw, .int .u16 (a1.toNat : Int), .int .u16 (n1.toNat : Int)] 36)) (w.heap.size + 1) (.int .u8 (f1.toNat : Int)) (.int .u8 (x1.toNat : Int)) (.slice rb bs.length db) (.slice rw ws.length dw) (.int .u16 (a1.toNat : Int)) (.int .u16 (n1.toNat : Int))) (set6 (w1.alloc (.cells #[.int .u8 (f1.toNat : Int), .int .u8 (x1.toNat : Int), .slice rb bs.length db, .slice rw ws.length dw, .int .u16 (a1.toNat : Int), .int .u16 (n1.toNat : Int)] 36)) (w.heap.size + 1) (.int .u8 (f1.toNat : Int)) (.int .u8 (x1.toNat : Int)) (.slice rb bs.length db) (.slice rw ws.length dw) (.int .u16 (a1.toNat : Int)) (.int .u16 (n1.toNat : Int))).heap.size ⟨f1, x1, bs, ws, a1, n1⟩ rw dw rb db) := Lib.hid ⟨by
      rw [set6_size]; exact set6_sl ((HREP.out.words.alloc (Nat.le_refl _) _).more (by simp)) (fun x hx => HFX.out x (.inl hx)), by
      rw [set6_size]; exact set6_sl ((HREP.out.bits.alloc (Nat.le_refl _) _).more (by simp)) (fun x hx => HFX.out x (.inr hx))⟩
    unfold set6 at HS1 HS2 HS3
    have HX := Lib.hid (And.intro HS1.out (And.intro HS2.out HS3.out))
    clear HS1 HS2 HS3 hlt hWR HR HM HF HREP HB1 HR1
    go_wp2_with fail
    refine bodyPost_ret (results_cell_row rfl _ _ (w.heap.size + 1) 36 _ (0, 0) _ rfl HX.out.1 Try.underlying36 rfl (by kernel_rfl)) rfl ?_
    rw [HAM.out]
    exact ⟨rw, dw, rb, db, rfl, HX.out.2.2, HX.out.2.1, HFY.out⟩
  | none =>
    simp only [Option.getD_none, Option.isSome_none] at HREP ⊢
    have hb0 : Below w.heap.size w (w1.alloc (.cells #[.int .u8 (zeroR.fn.toNat : Int), .int .u8 (zeroR.ex.toNat : Int), .slice rb zeroR.bits.length db, .slice rw zeroR.words.length dw, .int .u16 (zeroR.at_.toNat : Int), .int .u16 (zeroR.many.toNat : Int)] 36)) := HB1.out.alloc HB1.out.size _
    have hr0 := row_cell HR1.out.1 ((Below.refl w1.heap.size w1).alloc (Nat.le_refl _) (.cells #[.int .u8 (zeroR.fn.toNat : Int), .int .u8 (zeroR.ex.toNat : Int), .slice rb zeroR.bits.length db, .slice rw zeroR.words.length dw, .int .u16 (zeroR.at_.toNat : Int), .int .u16 (zeroR.many.toNat : Int)] 36))
    have hr1 := row_cell HR1.out.2 ((Below.refl w1.heap.size w1).alloc (Nat.le_refl _) (.cells #[.int .u8 (zeroR.fn.toNat : Int), .int .u8 (zeroR.ex.toNat : Int), .slice rb zeroR.bits.length db, .slice rw zeroR.words.length dw, .int .u16 (zeroR.at_.toNat : Int), .int .u16 (zeroR.many.toNat : Int)] 36))
    clear HREP HB1 HR1 HFX
    have HB0 := Lib.hid hb0
    have HRR := Lib.hid hr1
    have HR0 : Hid (Row6 (w1.alloc (.cells #[.int .u8 (zeroR.fn.toNat : Int), .int .u8 (zeroR.ex.toNat : Int), .slice rb zeroR.bits.length db, .slice rw zeroR.words.length dw, .int .u16 (zeroR.at_.toNat : Int), .int .u16 (zeroR.many.toNat : Int)] 36)) w.heap.size #[b8 fn, b16 at_, b16 many, b16 to_, .slice aw words.length cw, .slice ab bits.length cb]) := Lib.hid ⟨hr0⟩
    clear hb0 hr0 hr1
    go_wp2_with fail
    generalize (w1.alloc (.cells #[.int .u8 (zeroR.fn.toNat : Int), .int .u8 (zeroR.ex.toNat : Int), .slice rb zeroR.bits.length db, .slice rw zeroR.words.length dw, .int .u16 (zeroR.at_.toNat : Int), .int .u16 (zeroR.many.toNat : Int)] 36)) = W0 at *
    obtain ⟨u1, hu1⟩ : ∃ u, u = ptr g (brN fn.toNat) := ⟨_, rfl⟩
    obtain ⟨u2, hu2⟩ : ∃ u, u = ptr g (bwN fn.toNat) := ⟨_, rfl⟩
    obtain ⟨u3, hu3⟩ : ∃ u, u = ptr g (wrN fn.toNat) := ⟨_, rfl⟩
    obtain ⟨u4, hu4⟩ : ∃ u, u = ptr g (wwN fn.toNat) := ⟨_, rfl⟩
    have HUV : Hid (useV g fn.toNat = .agg #[.pointer u1, .pointer u2, .pointer u3, .pointer u4]) := Lib.hid (by unfold useV; rw [hu1, hu2, hu3, hu4])
    have HU1 := Lib.hid (And.intro hu1 (And.intro hu2 (And.intro hu3 hu4)))
    clear hu1 hu2 hu3 hu4
    have HUS : Hid (∀ W, Below W0.heap.size W0 W → Calls Try.prog 44 #[.pointer (some ⟨g, 0, none⟩)] W (MapIs g W)) := Lib.hid fun W hb => uses_at g W (by have h1 := HGL.out; have h2 := HB0.out.size; have h3 := hb.size; omega)
    have hk0 := HR0.out.all
    have HRD : Hid (Row6 W0.drew w.heap.size #[b8 fn, b16 at_, b16 many, b16 to_, .slice aw words.length cw, .slice ab bits.length cb]) := Lib.hid ⟨HR0.out.row⟩
    have hk1 := HRD.out.all
    have HRA : Hid (Row6 (W0.alloc (.cells #[.pointer none, .pointer none, .pointer none, .pointer none] 97)).drew w.heap.size #[b8 fn, b16 at_, b16 many, b16 to_, .slice aw words.length cw, .slice ab bits.length cb]) := Lib.hid (HR0.out.on (((Below.refl _ _).alloc (Nat.le_refl _) _).drew))
    have hk2 := HRA.out.all
    have HBA : Hid (Below W0.heap.size W0 (W0.alloc (.cells #[.pointer none, .pointer none, .pointer none, .pointer none] 97)).drew) := Lib.hid (((Below.refl _ _).alloc (Nat.le_refl _) _).drew)
    have HBD : Hid (Below W0.heap.size W0 W0.drew) := Lib.hid (Below.refl _ _).drew
    have HKL := Lib.hid HR0.out.lt
    have hwa : IntKind.i64.wrap (at_.toNat : Int) = (at_.toNat : Int) := wrap64 (by omega) (by omega)
    have hwm : IntKind.i64.wrap (many.toNat : Int) = (many.toNat : Int) := wrap64 (by omega) (by omega)
    go_region_held3 (fun w' => w'.cell? ⟨w.heap.size, 0, none⟩ = some (b8 fn) ∧ w'.cell? ⟨w.heap.size, 1, none⟩ = some (b16 at_) ∧ w'.cell? ⟨w.heap.size, 2, none⟩ = some (b16 many) ∧ w'.cell? ⟨w.heap.size, 3, none⟩ = some (b16 to_) ∧ w'.cell? ⟨w.heap.size, 4, none⟩ = some (.slice aw words.length cw) ∧ w'.cell? ⟨w.heap.size, 5, none⟩ = some (.slice ab bits.length cb))
      (first
        | with_reducible exact hk0
        | with_reducible exact hk1
        | with_reducible exact hk2
        | with_reducible exact hkU
        | with_reducible exact hkUA
        | with_reducible exact hkS
        | with_reducible exact hkSA
        | go_keep)
      (first
        | (revert HBD; intro HBD; go_at_call 44; (with_reducible refine (HUS.out W0.drew HBD.out).mono ?_); rintro e wU ⟨b, rfl, hbl, hbw, hlk⟩; have HRU := Lib.hid (HRD.out.on hbw); have hkU := HRU.out.all; have HBU := Lib.hid (HBD.out.trans (hbw.mono HBD.out.size)); have hl0 := hlk wU (Below.refl _ _) fn.toNat hf; have hl1 := hlk (wU.alloc (.cells #[.pointer none, .pointer none, .pointer none, .pointer none] 97)) ((Below.refl _ _).alloc (Nat.le_refl _) _) fn.toNat hf; rw [HUV.out] at hl0 hl1; have HRUA : Hid (Row6 (wU.alloc (.cells #[.pointer none, .pointer none, .pointer none, .pointer none] 97)) w.heap.size #[b8 fn, b16 at_, b16 many, b16 to_, .slice aw words.length cw, .slice ab bits.length cb]) := Lib.hid (HRU.out.on ((Below.refl _ _).alloc (Nat.le_refl _) _)); have hkUA := HRUA.out.all; have HAL := Lib.hid (AL2.lay (u := #[.pointer u1, .pointer u2, .pointer u3, .pointer u4]) HBU.out HRU.out); have hkS := HAL.out.ask.all; have HAL2 := Lib.hid (AL2.fill (u1 := .pointer u1) (u2 := .pointer u2) (u3 := .pointer u3) (u4 := .pointer u4) (HBU.out.alloc HBU.out.size _) HRUA.out (heap_alloc_new wU (.cells #[.pointer none, .pointer none, .pointer none, .pointer none] 97)) HKL.out HBU.out.size); have hkSA := HAL2.out.ask.all; clear hlk hbw HBD)
        | (revert HBA; intro HBA; go_at_call 44; (with_reducible refine (HUS.out _ HBA.out).mono ?_); rintro e wU ⟨b, rfl, hbl, hbw, hlk⟩; have HRU := Lib.hid (HRA.out.on hbw); have hkU := HRU.out.all; have HBU := Lib.hid (HBA.out.trans (hbw.mono HBA.out.size)); have hl0 := hlk wU (Below.refl _ _) fn.toNat hf; rw [HUV.out] at hl0; have hrU : Hid (wU.heap[W0.heap.size]? = some (.cells #[.pointer none, .pointer none, .pointer none, .pointer none] 97 (0, 0))) := Lib.hid ((hbw.block _ (by simp)).trans (show (W0.alloc (.cells #[.pointer none, .pointer none, .pointer none, .pointer none] 97)).drew.heap[W0.heap.size]? = _ from heap_alloc_new W0 _)); obtain ⟨hv0, hv1, hv2, hv3, hz0⟩ := four_cells hrU.out; have HAL := Lib.hid (AL2.fill (u1 := .pointer u1) (u2 := .pointer u2) (u3 := .pointer u3) (u4 := .pointer u4) HBU.out HRU.out hrU.out HKL.out (Nat.le_refl _)); have hkS := HAL.out.ask.all; clear hlk hbw HBA))
    all_goals
      clear hk0 hk1 hkS hkU HR0 HRA HRD HUS HBU HUV
      first
        | (have HQ : Hid (AL2 W0 (wU.alloc (.cells #[.pointer u1, .pointer u2, .pointer u3, .pointer u4] 97)) w.heap.size #[b8 fn, b16 at_, b16 many, b16 to_, .slice aw words.length cw, .slice ab bits.length cb] (wU.heap.size) #[.pointer u1, .pointer u2, .pointer u3, .pointer u4]) := (by with_reducible exact HAL); clear HAL; generalize wU.alloc (.cells #[.pointer u1, .pointer u2, .pointer u3, .pointer u4] 97) = WE at *; generalize wU.heap.size = bz at *)
        | (have HQ : Hid (AL2 W0 ((((wU.setCell ⟨W0.heap.size, 0, none⟩ (.pointer u1)).setCell ⟨W0.heap.size, 1, none⟩ (.pointer u2)).setCell ⟨W0.heap.size, 2, none⟩ (.pointer u3)).setCell ⟨W0.heap.size, 3, none⟩ (.pointer u4)) w.heap.size #[b8 fn, b16 at_, b16 many, b16 to_, .slice aw words.length cw, .slice ab bits.length cb] (W0.heap.size) #[.pointer u1, .pointer u2, .pointer u3, .pointer u4]) := (by with_reducible exact HAL); clear HAL; generalize ((((wU.setCell ⟨W0.heap.size, 0, none⟩ (.pointer u1)).setCell ⟨W0.heap.size, 1, none⟩ (.pointer u2)).setCell ⟨W0.heap.size, 2, none⟩ (.pointer u3)).setCell ⟨W0.heap.size, 3, none⟩ (.pointer u4)) = WE at *; generalize hbz : W0.heap.size = bz at *)
      have HL0 : Hid (AL2 W0 WE w.heap.size #[b8 fn, b16 at_, b16 many, b16 to_, .slice aw words.length cw, .slice ab bits.length cb] bz #[.pointer u1, .pointer u2, .pointer u3, .pointer u4]) := HQ
      clear HQ
      have HB1 : Hid (Below w.heap.size w WE) := Lib.hid (HB0.out.trans (HL0.out.below.mono HB0.out.size))
      have HR1 : Hid (WE.heap[w.heap.size + 1]? = some (.cells #[.int .u8 0, .int .u8 0, .slice none 0 0, .slice none 0 0, .int .u16 0, .int .u16 0] 36 (0, 0))) := Lib.hid (row_cell HRR.out HL0.out.below)
      have HX1 : Hid (w.heap.size + 1 < bz) := Lib.hid (by have h1 := HL0.out.gt; have h2 := (Array.getElem?_eq_some_iff.1 HRR.out).1; omega)
      have HC1 : Hid (∀ W, Below WE.heap.size WE W → Calls Try.prog 48 #[.pointer u1, .int .i64 (at_.toNat : Int), .int .i64 (many.toNat : Int), .int .i64 8] W (Fresh Value.bool (readB m (brN fn.toNat) at_.toNat many.toNat) W)) := Lib.hid fun W h => by
        rw [HU1.out.1]
        exact rd_bits (row_cell HR.out (HB1.out.trans (h.mono HB1.out.size))) (HM.out.on (HB1.out.trans (h.mono HB1.out.size))) _ (br_cases _) at_.toNat many.toNat (by omega) (fun j hj => HF.out.bits j hj)
      have HC2 : Hid (∀ W, Below WE.heap.size WE W → Calls Try.prog 49 #[.pointer u3, .int .i64 (at_.toNat : Int), .int .i64 (many.toNat : Int), .int .i64 1] W (Fresh b16 (readW m (wrN fn.toNat) at_.toNat many.toNat) W)) := Lib.hid fun W h => by
        rw [HU1.out.2.2.1]
        exact rd_regs (row_cell HR.out (HB1.out.trans (h.mono HB1.out.size))) (HM.out.on (HB1.out.trans (h.mono HB1.out.size))) _ (wr_cases _) at_.toNat many.toNat (by omega) (fun j hj => HF.out.regs j hj)
      clear HU1 HF HM HR
      generalize readB m (brN fn.toNat) at_.toNat many.toNat = rbits at *
      generalize readW m (wrN fn.toNat) at_.toNat many.toNat = rregs at *
      have HK : Hid (∀ W, Below WE.heap.size WE W → W.cell? ⟨w.heap.size, 0, none⟩ = some (b8 fn) ∧ W.cell? ⟨bz, 0, none⟩ = some (.pointer u1) ∧ W.cell? ⟨bz, 2, none⟩ = some (.pointer u3)) := Lib.hid fun W h => ⟨(HL0.out.on h).ask.c 0, (HL0.out.on h).ptrs.1, (HL0.out.on h).ptrs.2.2.1⟩
      have hk0 := HK.out WE (Below.refl _ _)
      have hk1 := HK.out WE.drew (Below.refl _ _).drew
      go_wp2_with fail
      have HB2 : Hid (Below WE.heap.size WE WE.drew) := Lib.hid (Below.refl _ _).drew
      go_region_held3 (fun w' => w'.cell? ⟨w.heap.size, 0, none⟩ = some (b8 fn) ∧ w'.cell? ⟨bz, 0, none⟩ = some (.pointer u1) ∧ w'.cell? ⟨bz, 2, none⟩ = some (.pointer u3))
        (first
          | with_reducible exact hk0
          | with_reducible exact hk1
          | with_reducible exact hkA
          | with_reducible exact hkB
          | with_reducible exact hkS
          | go_keep)
        (first
          | (revert HB2; intro HB2; go_at_call 48; (with_reducible refine (HC1.out _ HB2.out).mono ?_); rintro e wA ⟨b1, e1, rfl, hs1, hbA, hx1⟩; have hkA := HK.out wA (HB2.out.trans (hbA.mono HB2.out.size)); have HBA := Lib.hid (HB2.out.trans (hbA.mono HB2.out.size)); have HS1 := Lib.hid (And.intro hs1 (fun x (h : b1 = some x) => Nat.le_trans HB2.out.size (hx1 x h))); clear hs1 hbA hx1 HB2)
          | (revert HBA; intro HBA; go_at_call 49; (with_reducible refine (HC2.out _ HBA.out).mono ?_); rintro e wB ⟨b2, e2, rfl, hs2, hbB, hx2⟩; have HBB := Lib.hid (HBA.out.trans (hbB.mono HBA.out.size)); have hkB := HK.out wB HBB.out; have HS2 := Lib.hid (And.intro hs2 (fun x (h : b2 = some x) => Nat.le_trans HBA.out.size (hx2 x h))); have HS1B := Lib.hid (sl_on HS1.out.1 hbB); have hrow := row_cell HR1.out HBB.out; obtain ⟨v0, v1, v2, v3, v4, v5, z⟩ := six_cells hrow; have HSR := Lib.hid (set6_row (v0 := (.int .u8 (fn.toNat : Int))) (v1 := (.int .u8 0)) (v2 := (.slice b1 rbits.length e1)) (v3 := (.slice b2 rregs.length e2)) (v4 := (.int .u16 0)) (v5 := (.int .u16 0)) hrow); have HROW := Lib.hid hrow; clear hs2 hbB hx2 HBA hrow; have hkS : (set6 wB (w.heap.size + 1) (.int .u8 (fn.toNat : Int)) (.int .u8 0) (.slice b1 rbits.length e1) (.slice b2 rregs.length e2) (.int .u16 0) (.int .u16 0)).cell? ⟨w.heap.size, 0, none⟩ = some (b8 fn) ∧ (set6 wB (w.heap.size + 1) (.int .u8 (fn.toNat : Int)) (.int .u8 0) (.slice b1 rbits.length e1) (.slice b2 rregs.length e2) (.int .u16 0) (.int .u16 0)).cell? ⟨bz, 0, none⟩ = some (.pointer u1) ∧ (set6 wB (w.heap.size + 1) (.int .u8 (fn.toNat : Int)) (.int .u8 0) (.slice b1 rbits.length e1) (.slice b2 rregs.length e2) (.int .u16 0) (.int .u16 0)).cell? ⟨bz, 2, none⟩ = some (.pointer u3) := (by have hne := HX1.out; refine ⟨(World.cell?_of_block (set6_other (show w.heap.size ≠ w.heap.size + 1 by omega))).trans hkB.1, (World.cell?_of_block (set6_other (show bz ≠ w.heap.size + 1 by omega))).trans hkB.2.1, (World.cell?_of_block (set6_other (show bz ≠ w.heap.size + 1 by omega))).trans hkB.2.2⟩); unfold set6 at hkS))
      have HN1 : Hid (∀ x : Addr, b1 = some x → x.block ≠ w.heap.size + 1) := Lib.hid fun x hx e => by have h1 := HS1.out.2 x hx; have h2 := (Array.getElem?_eq_some_iff.1 HR1.out).1; omega
      have HN2 : Hid (∀ x : Addr, b2 = some x → x.block ≠ w.heap.size + 1) := Lib.hid fun x hx e => by have h1 := HS2.out.2 x hx; have h2 := (Array.getElem?_eq_some_iff.1 HR1.out).1; omega
      have HQ1 : Hid (RepAt (set6 wB (w.heap.size + 1) (.int .u8 (fn.toNat : Int)) (.int .u8 0) (.slice b1 rbits.length e1) (.slice b2 rregs.length e2) (.int .u16 0) (.int .u16 0)) (set6 wB (w.heap.size + 1) (.int .u8 (fn.toNat : Int)) (.int .u8 0) (.slice b1 rbits.length e1) (.slice b2 rregs.length e2) (.int .u16 0) (.int .u16 0)).heap.size ⟨fn, 0, rbits, rregs, 0, 0⟩ b2 e2 b1 e1) := Lib.hid ⟨by rw [set6_size]; exact set6_sl HS2.out.1 HN2.out, by rw [set6_size]; exact set6_sl HS1B.out HN1.out⟩
      have HQ2 : Hid (Below w.heap.size w (set6 wB (w.heap.size + 1) (.int .u8 (fn.toNat : Int)) (.int .u8 0) (.slice b1 rbits.length e1) (.slice b2 rregs.length e2) (.int .u16 0) (.int .u16 0))) := Lib.hid (set6_below (HB1.out.trans (HBB.out.mono HB1.out.size)) (by omega))
      have HQ3 : Hid (∀ x : Addr, b2 = some x ∨ b1 = some x → w.heap.size ≤ x.block) := Lib.hid fun x hx => by
        have h0 := HB1.out.size
        rcases hx with hx | hx
        · have := HS2.out.2 x hx; omega
        · have := HS1.out.2 x hx; omega
      unfold set6 at HQ1 HQ2 HSR
      clear hk0 hk1 hkA hkB hkS v0 v1 v2 v3 v4 v5 z
      go_wp2_with fail
      refine bodyPost_ret (results_cell_row rfl _ _ (w.heap.size + 1) 36 _ (0, 0) _ rfl HSR.out Try.underlying36 rfl (by kernel_rfl)) rfl ?_
      rw [HAM.out]
      exact ⟨b2, e2, b1, e1, rfl, HQ1.out, HQ2.out, HQ3.out⟩
end Go.Proofs.Ytamdpinfbadflaa.ModW

/- A request done. -/
open Go.RowKit
namespace Go.Proofs.Ytamdpinfbadflaa.ModM
open AskM ReplyM ReplyW
def doN (s : Sp) (m : Me) (a : Req) : Me × Rep :=
  if checkN s a ≠ 0 then (m, wrongN a.fn (UInt8.ofNat (checkN s a)))
  else if mrightN s m = false then (m, wrongN a.fn 4)
  else (writeM m a, answerM (writeM m a) a)
end Go.Proofs.Ytamdpinfbadflaa.ModM
namespace Go.Proofs.Ytamdpinfbadflaa.ModW
open AskM ReplyM ModM Mem AskW ReplyW

theorem results_two_cells {P : Program} {fn : Func} {p p2 : Tmp} {ty ty2 : TypeId} (h : fn.results = #[.cell p ty, .cell p2 ty2]) (tmps : Array Value) (w : World) (g g2 : Nat) (t t2 : TypeId) (cs cs2 : Array Value) (fr fr2 : Nat × Nat) (d d2 : TypeDesc)
    (hp : tmps.getD p undef = .pointer (some ⟨g, 0, none⟩)) (hp2 : tmps.getD p2 undef = .pointer (some ⟨g2, 0, none⟩)) (hg : w.heap[g]? = some (.cells cs t fr)) (hg2 : w.heap[g2]? = some (.cells cs2 t2 fr2))
    (hu : P.underlying ty = some d) (hd : (match d with | .struct _ | .array _ _ => true | _ => false) = true) (hi : (P.info? ty).map (·.size) = some cs.size)
    (hu2 : P.underlying ty2 = some d2) (hd2 : (match d2 with | .struct _ | .array _ _ => true | _ => false) = true) (hi2 : (P.info? ty2).map (·.size) = some cs2.size) :
    (results fn tmps).run P w = .ok (.tuple #[.agg cs, .agg cs2]) w := by
  have hp' : tmps[p]?.getD undef = .pointer (some ⟨g, 0, none⟩) := by simpa using hp
  have hp2' : tmps[p2]?.getD undef = .pointer (some ⟨g2, 0, none⟩) := by simpa using hp2
  simp [results, h, hp', hp2', asAddr, run_loadVar_row w g t ty cs fr d hg hu hd hi, run_loadVar_row w g2 t2 ty2 cs2 fr2 d2 hg2 hu2 hd2 hi2]
def set4 (W : World) (g : Nat) (v0 v1 v2 v3 : Value) : World := (((W.setCell ⟨g, 0, none⟩ v0).setCell ⟨g, 1, none⟩ v1).setCell ⟨g, 2, none⟩ v2).setCell ⟨g, 3, none⟩ v3
theorem set4_row {W : World} {g : Nat} {c0 c1 c2 c3 v0 v1 v2 v3 : Value} {T : TypeId} (h : W.heap[g]? = some (.cells #[c0, c1, c2, c3] T (0, 0))) : (set4 W g v0 v1 v2 v3).heap[g]? = some (.cells #[v0, v1, v2, v3] T (0, 0)) :=
  heap_setCell_same _ _ _ _ _ _ (heap_setCell_same _ _ _ _ _ _ (heap_setCell_same _ _ _ _ _ _ (heap_setCell_same _ _ _ _ _ _ h)))
theorem set4_below {B : Nat} {w W : World} {g : Nat} {v0 v1 v2 v3 : Value} (h : Below B w W) (hg : B ≤ g) : Below B w (set4 W g v0 v1 v2 v3) :=
  (((h.setCell (p := ⟨g, 0, none⟩) hg v0).setCell (p := ⟨g, 1, none⟩) hg v1).setCell (p := ⟨g, 2, none⟩) hg v2).setCell (p := ⟨g, 3, none⟩) hg v3
theorem set4_size {W : World} {g : Nat} {v0 v1 v2 v3 : Value} : (set4 W g v0 v1 v2 v3).heap.size = W.heap.size := by unfold set4; simp only [World.size_setCell]
theorem set4_other {W : World} {g k : Nat} {v0 v1 v2 v3 : Value} (h : k ≠ g) : (set4 W g v0 v1 v2 v3).heap[k]? = W.heap[k]? := by
  unfold set4
  rw [Below.heap_setCell _ _ _ _ h, Below.heap_setCell _ _ _ _ h, Below.heap_setCell _ _ _ _ h, Below.heap_setCell _ _ _ _ h]
theorem set4_sl {α : Type} {f : α → Value} {W : World} {g B n c : Nat} {a : Option Addr} {l : List α} {v0 v1 v2 v3 : Value} (h : Sl f W B a n c l) (hne : ∀ x : Addr, a = some x → x.block ≠ g) : Sl f (set4 W g v0 v1 v2 v3) B a n c l := by
  unfold set4
  exact (((h.set hne).set hne).set hne).set hne
theorem quad_cells {W : World} {g : Nat} {c0 c1 c2 c3 : Value} {T : TypeId} (h : W.heap[g]? = some (.cells #[c0, c1, c2, c3] T (0, 0))) :
    W.cell? ⟨g, 0, none⟩ = some c0 ∧ W.cell? ⟨g, 1, none⟩ = some c1 ∧ W.cell? ⟨g, 2, none⟩ = some c2 ∧ W.cell? ⟨g, 3, none⟩ = some c3 ∧ ∀ i, W.frozen? ⟨g, i, none⟩ = false :=
  ⟨cell_of_row _ _ _ _ _ _ h, cell_of_row _ _ _ _ _ _ h, cell_of_row _ _ _ _ _ _ h, cell_of_row _ _ _ _ _ _ h, fun _ => frozen_of_row _ _ _ _ _ h⟩
/-- The boxes of Do. -/
structure DB (w W : World) (S M A : Array Value) : Prop where
  below : Below w.heap.size w W
  s : W.heap[w.heap.size]? = some (.cells S 24 (0, 0))
  m : W.heap[w.heap.size + 1]? = some (.cells M 28 (0, 0))
  a : W.heap[w.heap.size + 1 + 1]? = some (.cells A 31 (0, 0))
  r1 : W.heap[w.heap.size + 1 + 1 + 1]? = some (.cells #[.slice none 0 0, .slice none 0 0, .slice none 0 0, .slice none 0 0] 28 (0, 0))
  r2 : W.heap[w.heap.size + 1 + 1 + 1 + 1]? = some (.cells #[.int .u8 0, .int .u8 0, .slice none 0 0, .slice none 0 0, .int .u16 0, .int .u16 0] 36 (0, 0))
theorem DB.lt {w W : World} {S M A : Array Value} (h : DB w W S M A) : w.heap.size + 1 + 1 + 1 + 1 < W.heap.size := (Array.getElem?_eq_some_iff.1 h.r2).1
theorem DB.on {w W W' : World} {S M A : Array Value} (h : DB w W S M A) (hb : Below W.heap.size W W') : DB w W' S M A :=
  ⟨h.below.trans (hb.mono h.below.size), row_cell h.s hb, row_cell h.m hb, row_cell h.a hb, row_cell h.r1 hb, row_cell h.r2 hb⟩
theorem DB.new (w : World) (S M A : Array Value) : DB w (((((w.alloc (.cells S 24)).alloc (.cells M 28)).alloc (.cells A 31)).alloc (.cells #[.slice none 0 0, .slice none 0 0, .slice none 0 0, .slice none 0 0] 28)).alloc (.cells #[.int .u8 0, .int .u8 0, .slice none 0 0, .slice none 0 0, .int .u16 0, .int .u16 0] 36)) S M A := by
  have e : ∀ (W : World) (o : Obj), (W.alloc o).heap.size = W.heap.size + 1 := fun W o => by simp
  refine ⟨?_, ?_, ?_, ?_, ?_, ?_⟩
  · refine ((((((Below.refl _ _).alloc (Nat.le_refl _) _).alloc ?_ _).alloc ?_ _).alloc ?_ _).alloc ?_ _) <;> simp only [e] <;> omega
  · rw [Below.heap_alloc _ _ _ (by simp only [e]; omega), Below.heap_alloc _ _ _ (by simp only [e]; omega), Below.heap_alloc _ _ _ (by simp only [e]; omega), Below.heap_alloc _ _ _ (by simp only [e]; omega)]
    exact heap_alloc_new w _
  · rw [Below.heap_alloc _ _ _ (by simp only [e]; omega), Below.heap_alloc _ _ _ (by simp only [e]; omega), Below.heap_alloc _ _ _ (by simp only [e]; omega)]
    have h := heap_alloc_new (w.alloc (.cells S 24)) (.cells M 28)
    rwa [e] at h
  · rw [Below.heap_alloc _ _ _ (by simp only [e]; omega), Below.heap_alloc _ _ _ (by simp only [e]; omega)]
    have h := heap_alloc_new ((w.alloc (.cells S 24)).alloc (.cells M 28)) (.cells A 31)
    rwa [e, e] at h
  · rw [Below.heap_alloc _ _ _ (by simp only [e]; omega)]
    have h := heap_alloc_new (((w.alloc (.cells S 24)).alloc (.cells M 28)).alloc (.cells A 31)) (.cells #[.slice none 0 0, .slice none 0 0, .slice none 0 0, .slice none 0 0] 28)
    rwa [e, e, e] at h
  · have h := heap_alloc_new ((((w.alloc (.cells S 24)).alloc (.cells M 28)).alloc (.cells A 31)).alloc (.cells #[.slice none 0 0, .slice none 0 0, .slice none 0 0, .slice none 0 0] 28)) (.cells #[.int .u8 0, .int .u8 0, .slice none 0 0, .slice none 0 0, .int .u16 0, .int .u16 0] 36)
    rwa [e, e, e, e] at h
theorem DB.ss {w W : World} {c0 c1 c2 c3 : Value} {M A : Array Value} (h : DB w W #[c0, c1, c2, c3] M A) : W.cell? ⟨w.heap.size, 0, none⟩ = some c0 ∧ W.cell? ⟨w.heap.size, 1, none⟩ = some c1 ∧ W.cell? ⟨w.heap.size, 2, none⟩ = some c2 ∧ W.cell? ⟨w.heap.size, 3, none⟩ = some c3 :=
  ⟨cell_of_row _ _ _ _ _ _ h.s, cell_of_row _ _ _ _ _ _ h.s, cell_of_row _ _ _ _ _ _ h.s, cell_of_row _ _ _ _ _ _ h.s⟩
theorem DB.mm {w W : World} {c0 c1 c2 c3 : Value} {S A : Array Value} (h : DB w W S #[c0, c1, c2, c3] A) : W.cell? ⟨w.heap.size + 1, 0, none⟩ = some c0 ∧ W.cell? ⟨w.heap.size + 1, 1, none⟩ = some c1 ∧ W.cell? ⟨w.heap.size + 1, 2, none⟩ = some c2 ∧ W.cell? ⟨w.heap.size + 1, 3, none⟩ = some c3 :=
  ⟨cell_of_row _ _ _ _ _ _ h.m, cell_of_row _ _ _ _ _ _ h.m, cell_of_row _ _ _ _ _ _ h.m, cell_of_row _ _ _ _ _ _ h.m⟩
theorem DB.aa {w W : World} {c0 c1 c2 c3 c4 c5 : Value} {S M : Array Value} (h : DB w W S M #[c0, c1, c2, c3, c4, c5]) : W.cell? ⟨w.heap.size + 1 + 1, 0, none⟩ = some c0 ∧ W.cell? ⟨w.heap.size + 1 + 1, 1, none⟩ = some c1 ∧ W.cell? ⟨w.heap.size + 1 + 1, 2, none⟩ = some c2 ∧ W.cell? ⟨w.heap.size + 1 + 1, 3, none⟩ = some c3 ∧ W.cell? ⟨w.heap.size + 1 + 1, 4, none⟩ = some c4 ∧ W.cell? ⟨w.heap.size + 1 + 1, 5, none⟩ = some c5 :=
  ⟨cell_of_row _ _ _ _ _ _ h.a, cell_of_row _ _ _ _ _ _ h.a, cell_of_row _ _ _ _ _ _ h.a, cell_of_row _ _ _ _ _ _ h.a, cell_of_row _ _ _ _ _ _ h.a, cell_of_row _ _ _ _ _ _ h.a⟩
theorem me_ne {W : World} {base : Nat} {n : Me} {q : Pl} (h : OwnMe W base n q) {g : Nat} (hg : g < base) : (∀ x : Addr, q.ca = some x → x.block ≠ g) ∧ (∀ x : Addr, q.ia = some x → x.block ≠ g) ∧ (∀ x : Addr, q.ha = some x → x.block ≠ g) ∧ (∀ x : Addr, q.wa = some x → x.block ≠ g) :=
  ⟨fun x hx => by have h1 := h.coils; rw [hx] at h1; have := (own_block h1).1; omega, fun x hx => by have h1 := h.inputs; rw [hx] at h1; have := (own_block h1).1; omega, fun x hx => by have h1 := h.holding; rw [hx] at h1; have := (own_block h1).1; omega, fun x hx => by have h1 := h.words; rw [hx] at h1; have := (own_block h1).1; omega⟩
abbrev Hold (W : World) (t k : Nat) (n0 n1 n2 n3 a0 a1 a2 a3 a4 a5 : Value) : Prop :=
  W.cell? ⟨t, 0, none⟩ = some n0 ∧ W.cell? ⟨t, 1, none⟩ = some n1 ∧ W.cell? ⟨t, 2, none⟩ = some n2 ∧ W.cell? ⟨t, 3, none⟩ = some n3 ∧
  W.cell? ⟨k, 0, none⟩ = some a0 ∧ W.cell? ⟨k, 1, none⟩ = some a1 ∧ W.cell? ⟨k, 2, none⟩ = some a2 ∧ W.cell? ⟨k, 3, none⟩ = some a3 ∧ W.cell? ⟨k, 4, none⟩ = some a4 ∧ W.cell? ⟨k, 5, none⟩ = some a5
theorem Hold.to {W W' : World} {t k : Nat} {n0 n1 n2 n3 a0 a1 a2 a3 a4 a5 : Value} (h : Hold W t k n0 n1 n2 n3 a0 a1 a2 a3 a4 a5) (h1 : W'.heap[t]? = W.heap[t]?) (h2 : W'.heap[k]? = W.heap[k]?) : Hold W' t k n0 n1 n2 n3 a0 a1 a2 a3 a4 a5 := by
  obtain ⟨c0, c1, c2, c3, d0, d1, d2, d3, d4, d5⟩ := h
  have e1 : ∀ i, W'.cell? ⟨t, i, none⟩ = W.cell? ⟨t, i, none⟩ := fun i => World.cell?_of_block (a := ⟨t, i, none⟩) h1
  have e2 : ∀ i, W'.cell? ⟨k, i, none⟩ = W.cell? ⟨k, i, none⟩ := fun i => World.cell?_of_block (a := ⟨k, i, none⟩) h2
  exact ⟨(e1 _).trans c0, (e1 _).trans c1, (e1 _).trans c2, (e1 _).trans c3, (e2 _).trans d0, (e2 _).trans d1, (e2 _).trans d2, (e2 _).trans d3, (e2 _).trans d4, (e2 _).trans d5⟩
/-- The boxes, and the memory of the call's own. -/
structure DX (w W : World) (S M A : Array Value) (base t8 : Nat) (N : Array Value) (m : Me) (q : Pl) : Prop where
  db : DB w W S M A
  t : W.heap[t8]? = some (.cells N 28 (0, 0))
  own : OwnMe W base m q
  hb : w.heap.size + 1 + 1 + 1 + 1 < base
  ht : w.heap.size + 1 + 1 + 1 + 1 < t8
  nt : ∀ x : Addr, q.ca = some x ∨ q.ha = some x → x.block ≠ t8
theorem DX.on {w W W' : World} {S M A : Array Value} {base t8 : Nat} {N : Array Value} {m : Me} {q : Pl} (h : DX w W S M A base t8 N m q) (hb : Below W.heap.size W W') : DX w W' S M A base t8 N m q :=
  ⟨h.db.on hb, row_cell h.t hb, h.own.on hb, h.hb, h.ht, h.nt⟩
theorem DX.turn {w W W' : World} {S M A : Array Value} {base t8 : Nat} {N : Array Value} {m n : Me} {q : Pl} (h : DX w W S M A base t8 N m q) (ho : OwnMe W' base n q) (ht : Turn W W' q) : DX w W' S M A base t8 N n q := by
  have hk : ∀ k, k ≤ w.heap.size + 1 + 1 + 1 + 1 → W'.heap[k]? = W.heap[k]? := fun k hk => by
    obtain ⟨n1, _, n3, _⟩ := me_ne h.own (g := k) (by have := h.hb; omega)
    exact ht.keep k (by have := h.db.lt; omega) n1 n3
  refine ⟨⟨⟨ht.os.trans h.db.below.os, ht.tape.trans h.db.below.tape, ht.output.trans h.db.below.output, Nat.le_trans h.db.below.size ht.size, fun k hk2 => (hk k (by omega)).trans (h.db.below.block k hk2)⟩, (hk _ (by omega)).trans h.db.s, (hk _ (by omega)).trans h.db.m, (hk _ (by omega)).trans h.db.a, (hk _ (by omega)).trans h.db.r1, (hk _ (by omega)).trans h.db.r2⟩, ?_, ho, h.hb, h.ht, h.nt⟩
  exact (ht.keep t8 (Array.getElem?_eq_some_iff.1 h.t).1 (fun x hx => h.nt x (.inl hx)) (fun x hx => h.nt x (.inr hx))).trans h.t
theorem DX.hold {w W : World} {S M : Array Value} {base t8 : Nat} {m : Me} {q : Pl} {n0 n1 n2 n3 a0 a1 a2 a3 a4 a5 : Value} (h : DX w W S M #[a0, a1, a2, a3, a4, a5] base t8 #[n0, n1, n2, n3] m q) : Hold W t8 (w.heap.size + 1 + 1) n0 n1 n2 n3 a0 a1 a2 a3 a4 a5 :=
  ⟨cell_of_row _ _ _ _ _ _ h.t, cell_of_row _ _ _ _ _ _ h.t, cell_of_row _ _ _ _ _ _ h.t, cell_of_row _ _ _ _ _ _ h.t, cell_of_row _ _ _ _ _ _ h.db.a, cell_of_row _ _ _ _ _ _ h.db.a, cell_of_row _ _ _ _ _ _ h.db.a, cell_of_row _ _ _ _ _ _ h.db.a, cell_of_row _ _ _ _ _ _ h.db.a, cell_of_row _ _ _ _ _ _ h.db.a⟩
/-- What is done. -/
def Does (x : Me × Rep) (w : World) (e : Ending) (w' : World) : Prop := ∃ q aw cw ab cb, e = .returned (.tuple #[meV x.1 q, repV x.2 aw cw ab cb]) ∧ MeAt w' w'.heap.size x.1 q ∧ RepAt w' w'.heap.size x.2 aw cw ab cb ∧ Below w.heap.size w w'
/-- Both results laid into their cells. -/
structure Fin (w W : World) (n : Me) (q : Pl) (r : Rep) (aw : Option Addr) (cw : Nat) (ab : Option Addr) (cb : Nat) : Prop where
  below : Below w.heap.size w W
  r1 : W.heap[w.heap.size + 1 + 1 + 1]? = some (.cells #[.slice q.ca n.coils.length q.cc, .slice q.ia n.inputs.length q.ic, .slice q.ha n.holding.length q.hc, .slice q.wa n.words.length q.wc] 28 (0, 0))
  r2 : W.heap[w.heap.size + 1 + 1 + 1 + 1]? = some (.cells #[b8 r.fn, b8 r.ex, .slice ab r.bits.length cb, .slice aw r.words.length cw, b16 r.at_, b16 r.many] 36 (0, 0))
  me : MeAt W W.heap.size n q
  rep : RepAt W W.heap.size r aw cw ab cb
theorem Fin.mk' {w W : World} {base : Nat} {n : Me} {q : Pl} {r : Rep} {aw : Option Addr} {cw : Nat} {ab : Option Addr} {cb : Nat} (hb : Below w.heap.size w W) (h1 : W.heap[w.heap.size + 1 + 1 + 1]? = some (.cells #[.slice none 0 0, .slice none 0 0, .slice none 0 0, .slice none 0 0] 28 (0, 0))) (h2 : W.heap[w.heap.size + 1 + 1 + 1 + 1]? = some (.cells #[.int .u8 0, .int .u8 0, .slice none 0 0, .slice none 0 0, .int .u16 0, .int .u16 0] 36 (0, 0)))
    (hM : OwnMe W base n q) (hbase : w.heap.size + 1 + 1 + 1 + 1 < base) (hR : RepAt W W.heap.size r aw cw ab cb) (hx : ∀ x : Addr, aw = some x ∨ ab = some x → w.heap.size + 1 + 1 + 1 + 1 < x.block) :
    Fin w (set6 (set4 W (w.heap.size + 1 + 1 + 1) (.slice q.ca n.coils.length q.cc) (.slice q.ia n.inputs.length q.ic) (.slice q.ha n.holding.length q.hc) (.slice q.wa n.words.length q.wc)) (w.heap.size + 1 + 1 + 1 + 1) (b8 r.fn) (b8 r.ex) (.slice ab r.bits.length cb) (.slice aw r.words.length cw) (b16 r.at_) (b16 r.many)) n q r aw cw ab cb := by
  obtain ⟨n1, n2, n3, n4⟩ := me_ne hM (g := w.heap.size + 1 + 1 + 1) (by omega)
  obtain ⟨k1, k2, k3, k4⟩ := me_ne hM (g := w.heap.size + 1 + 1 + 1 + 1) (by omega)
  have hme := hM.me
  refine ⟨set6_below (set4_below hb (by omega)) (by omega), ?_, ?_, ?_, ?_⟩
  · rw [set6_other (by omega)]; exact set4_row h1
  · exact set6_row ((set4_other (by omega)).trans h2)
  · rw [set6_size, set4_size]
    exact ⟨set6_sl (set4_sl hme.coils n1) k1, set6_sl (set4_sl hme.inputs n2) k2, set6_sl (set4_sl hme.holding n3) k3, set6_sl (set4_sl hme.words n4) k4⟩
  · rw [set6_size, set4_size]
    exact ⟨set6_sl (set4_sl hR.words fun x h e => by have := hx x (.inl h); omega) fun x h e => by have := hx x (.inl h); omega, set6_sl (set4_sl hR.bits fun x h e => by have := hx x (.inr h); omega) fun x h e => by have := hx x (.inr h); omega⟩
set_option maxRecDepth 100000 in
set_option maxHeartbeats 4000000 in
theorem Do_any (s : Sp) (p : Pl) (m : Me) (p2 : Pl) (a : Req) (aw : Option Addr) (cw : Nat) (ab : Option Addr) (cb : Nat) (w : World) (hS : SpAt w w.heap.size s p) (hM : MeAt w w.heap.size m p2) (hm : MeSmall m) (hA : AskAt w w.heap.size a aw cw ab cb)
    (hW : checkN s a = 0 → mrightN s m = true → WFits m a) (hR : checkN s a = 0 → mrightN s m = true → RFits (writeM m a) a) (hnw : a.words.length ≤ 65535) (hnb : a.bits.length ≤ 65535) :
    Calls Try.prog 11 #[spV s p, meV m p2, askV a aw cw ab cb] w (Does (doN s m a) w) := by
  have HCL := Lib.hid (fun W (h : Below w.heap.size w W) => clone_any m p2 W (hM.on h) hm)
  have HCH := Lib.hid (fun W (h : Below w.heap.size w W) => Check_any s p a aw cw ab cb W (hS.on h) hnw hnb)
  have HRI := Lib.hid (fun W (h : Below w.heap.size w W) => MRight_any s m p p2 W (hS.on h) (hM.on h) hm)
  have HLA := Lib.hid (fun q W => lay_any s m p q W)
  have HWR := Lib.hid (fun q g base W (h : W.heap[g]? = some (.cells (srvC s m p q) 67 (0, 0))) (hO : OwnMe W base m q) (hb : Below w.heap.size w W) (hF : WFits m a) => write_any s m p q g base a aw cw ab cb W h hO ⟨(hA.words.below hb (Nat.le_refl _)).more hb.size, (hA.bits.below hb (Nat.le_refl _)).more hb.size⟩ hF)
  have HAN := Lib.hid (fun q g W (h : W.heap[g]? = some (.cells (srvC s (writeM m a) p q) 67 (0, 0))) (hO : MeAt W W.heap.size (writeM m a) q) (hb : Below w.heap.size w W) (hF : RFits (writeM m a) a) => answer_any s (writeM m a) p q g a aw cw ab cb W h hO ⟨(hA.words.below hb (Nat.le_refl _)).more hb.size, (hA.bits.below hb (Nat.le_refl _)).more hb.size⟩ hF hnw hnb)
  have HD : Hid (doN s m a = if checkN s a ≠ 0 then (m, wrongN a.fn (UInt8.ofNat (checkN s a))) else if mrightN s m = false then (m, wrongN a.fn 4) else (writeM m a, answerM (writeM m a) a)) := Lib.hid rfl
  have HWF := Lib.hid hW
  have HRF := Lib.hid hR
  have hc3 : checkN s a ≤ 3 := by unfold checkN; split <;> (try split) <;> omega
  have HLEN : Hid ((writeM m a).coils.length = m.coils.length ∧ (writeM m a).inputs.length = m.inputs.length ∧ (writeM m a).holding.length = m.holding.length ∧ (writeM m a).words.length = m.words.length ∨ ¬ (checkN s a = 0 ∧ mrightN s m = true)) := Lib.hid (by
    by_cases h : checkN s a = 0 ∧ mrightN s m = true
    · left
      have hF := hW h.1 h.2
      refine ⟨?_, rfl, ?_, rfl⟩
      · show (if (bwN a.fn.toNat).isSome then overN m.coils (targetN a) a.bits else m.coils).length = _
        split
        · rename_i h; exact over_length _ _ _ (hF.bits h).2
        · rfl
      · show (if (wwN a.fn.toNat).isSome then overN m.holding (targetN a) a.words else m.holding).length = _
        split
        · rename_i h; exact over_length _ _ _ (hF.words h).2
        · rfl
    · exact .inr h)
  generalize checkN s a = ck at *
  generalize mrightN s m = rg at *
  obtain ⟨ca, cc, ia, ic, ha, hc, wa, wc⟩ := p
  obtain ⟨da, dc, ja, jc, ka, kc, xa, xc⟩ := p2
  obtain ⟨fn, at_, many, to_, words, bits⟩ := a
  have hdb := DB.new w #[.slice ca s.coils.length cc, .slice ia s.inputs.length ic, .slice ha s.holding.length hc, .slice wa s.words.length wc] #[.slice da m.coils.length dc, .slice ja m.inputs.length jc, .slice ka m.holding.length kc, .slice xa m.words.length xc] #[b8 fn, b16 at_, b16 many, b16 to_, .slice aw words.length cw, .slice ab bits.length cb]
  clear hS hM hm hA hW hR hnw hnb
  go_enter Try.func11, Try.ntmps11
  go_wp2_with fail
  generalize ((((w.alloc (.cells #[.slice ca s.coils.length cc, .slice ia s.inputs.length ic, .slice ha s.holding.length hc, .slice wa s.words.length wc] 24)).alloc (.cells #[.slice da m.coils.length dc, .slice ja m.inputs.length jc, .slice ka m.holding.length kc, .slice xa m.words.length xc] 28)).alloc (.cells #[b8 fn, b16 at_, b16 many, b16 to_, .slice aw words.length cw, .slice ab bits.length cb] 31)).alloc (.cells #[.slice none 0 0, .slice none 0 0, .slice none 0 0, .slice none 0 0] 28)).alloc (.cells #[.int .u8 0, .int .u8 0, .slice none 0 0, .slice none 0 0, .int .u16 0, .int .u16 0] 36) = W0 at *
  have K0 := Lib.hid hdb
  clear hdb
  refine (HCL.out W0 K0.out.below).mono ?_
  rintro e w1 ⟨q, rfl, hO, hb⟩
  obtain ⟨ea, ec, la, lc, na, nc, ya, yc⟩ := q
  have K1 := Lib.hid (K0.out.on hb)
  have hbase := K0.out.lt
  have HBS : Hid (w.heap.size + 1 + 1 + 1 + 1 < W0.heap.size) := Lib.hid hbase
  generalize W0.heap.size = base at *
  have KX : Hid (DX w (w1.alloc (.cells #[.slice ea m.coils.length ec, .slice la m.inputs.length lc, .slice na m.holding.length nc, .slice ya m.words.length yc] 28)) (#[.slice ca s.coils.length cc, .slice ia s.inputs.length ic, .slice ha s.holding.length hc, .slice wa s.words.length wc]) (#[.slice da m.coils.length dc, .slice ja m.inputs.length jc, .slice ka m.holding.length kc, .slice xa m.words.length xc]) (#[b8 fn, b16 at_, b16 many, b16 to_, .slice aw words.length cw, .slice ab bits.length cb]) base w1.heap.size #[.slice ea m.coils.length ec, .slice la m.inputs.length lc, .slice na m.holding.length nc, .slice ya m.words.length yc] m ⟨ea, ec, la, lc, na, nc, ya, yc⟩) := Lib.hid ⟨K1.out.on ((Below.refl _ _).alloc (Nat.le_refl _) _), heap_alloc_new w1 _, hO.on ((Below.refl _ _).alloc (Nat.le_refl _) _), HBS.out, by have := K1.out.lt; have := hb.size; omega, fun x hx => by
    rcases hx with hx | hx
    · have h1 := hO.coils; rw [hx] at h1; have := (own_block h1).2; omega
    · have h1 := hO.holding; rw [hx] at h1; have := (own_block h1).2; omega⟩
  clear hb hO K0 HCL hbase K1
  have t0 := KX.out.db.ss
  have t1 := KX.out.db.aa
  obtain ⟨s0, s1, s2, s3⟩ := t0
  obtain ⟨a0, a1, a2, a3, a4, a5⟩ := t1
  go_wp2_with fail
  generalize w1.alloc (.cells #[.slice ea m.coils.length ec, .slice la m.inputs.length lc, .slice na m.holding.length nc, .slice ya m.words.length yc] 28) = W1 at *
  generalize w1.heap.size = t8 at *
  clear s0 s1 s2 s3 a0 a1 a2 a3 a4 a5
  refine (HCH.out W1 KX.out.db.below).mono ?_
  rintro e w2 ⟨rfl, hb⟩
  have K2 := Lib.hid (KX.out.on hb)
  clear hb KX HCH
  by_cases hck : ck = 0
  case neg =>
    have hckt : ((ck : Int) != 0) = true := by simp; omega
    go_wp2_with fail
    obtain ⟨rr, hrr⟩ : ∃ r, r = wrongN fn (UInt8.ofNat ck) := ⟨_, rfl⟩
    have HC2 : Hid (∀ W, Below w2.heap.size w2 W → Calls Try.prog 22 #[b8 fn, .int .u8 (ck : Int)] W (Answers rr W)) := Lib.hid fun W _ => by
      have hx : (.int .u8 (ck : Int) : Value) = b8 (UInt8.ofNat ck) := by
        have : (UInt8.ofNat ck).toNat = ck := by simp; omega
        simp only [b8, this]
      rw [hx, hrr]
      exact (Wrong_any fn (UInt8.ofNat ck) W).mono fun e w' ⟨he, hb⟩ => ⟨none, 0, none, 0, he, RepAt.nil rfl rfl, hb, fun x hx => by rcases hx with hx | hx <;> cases hx⟩
    rw [if_pos hck, ← hrr] at HD
    clear hckt hck hrr
    have HBD := Lib.hid (Below.refl w2.heap.size w2).drew
    have KD := Lib.hid (K2.out.on HBD.out)
    have hk0 := K2.out.hold
    have hk1 := KD.out.hold
    go_region_held3 (fun w' => Hold w' t8 (w.heap.size + 1 + 1) (.slice ea m.coils.length ec) (.slice la m.inputs.length lc) (.slice na m.holding.length nc) (.slice ya m.words.length yc) (b8 fn) (b16 at_) (b16 many) (b16 to_) (.slice aw words.length cw) (.slice ab bits.length cb))
      (first
        | with_reducible exact hk0
        | with_reducible exact hk1
        | with_reducible exact hkC
        | with_reducible exact hkD
        | with_reducible exact hkE
        | go_keep)
      (first
        | (revert KD; intro KD; go_at_call 22; (with_reducible refine (HC2.out _ HBD.out).mono ?_); rintro e wC ⟨b1, e1, b2, e2, rfl, hrep, hbC, hxC⟩; have KC := Lib.hid (KD.out.on hbC); have hkC := KC.out.hold; obtain ⟨q0, q1, q2, q3, z4⟩ := quad_cells KC.out.db.r1; have hne1 : t8 ≠ w.heap.size + 1 + 1 + 1 := (by have := KC.out.ht; omega); have hne2 : t8 ≠ w.heap.size + 1 + 1 + 1 + 1 := (by have := KC.out.ht; omega); have hkD : Hold (set4 wC (w.heap.size + 1 + 1 + 1) (.slice ea m.coils.length ec) (.slice la m.inputs.length lc) (.slice na m.holding.length nc) (.slice ya m.words.length yc)) t8 (w.heap.size + 1 + 1) (.slice ea m.coils.length ec) (.slice la m.inputs.length lc) (.slice na m.holding.length nc) (.slice ya m.words.length yc) (b8 fn) (b16 at_) (b16 many) (b16 to_) (.slice aw words.length cw) (.slice ab bits.length cb) := hkC.to (set4_other hne1) (set4_other (by omega)); have hkE : Hold (set6 (set4 wC (w.heap.size + 1 + 1 + 1) (.slice ea m.coils.length ec) (.slice la m.inputs.length lc) (.slice na m.holding.length nc) (.slice ya m.words.length yc)) (w.heap.size + 1 + 1 + 1 + 1) (b8 rr.fn) (b8 rr.ex) (.slice b2 rr.bits.length e2) (.slice b1 rr.words.length e1) (b16 rr.at_) (b16 rr.many)) t8 (w.heap.size + 1 + 1) (.slice ea m.coils.length ec) (.slice la m.inputs.length lc) (.slice na m.holding.length nc) (.slice ya m.words.length yc) (b8 fn) (b16 at_) (b16 many) (b16 to_) (.slice aw words.length cw) (.slice ab bits.length cb) := hkD.to (set6_other hne2) (set6_other (by omega)); have HFIN := Lib.hid (Fin.mk' (q := ⟨ea, ec, la, lc, na, nc, ya, yc⟩) KC.out.db.below KC.out.db.r1 KC.out.db.r2 KC.out.own KC.out.hb hrep (fun x hx => Nat.lt_of_lt_of_le KD.out.db.lt (hxC x hx))); obtain ⟨y0, y1, y2, y3, y4, y5, z6⟩ := six_cells ((set4_other (W := wC) (v0 := (.slice ea m.coils.length ec)) (v1 := (.slice la m.inputs.length lc)) (v2 := (.slice na m.holding.length nc)) (v3 := (.slice ya m.words.length yc)) (show w.heap.size + 1 + 1 + 1 + 1 ≠ w.heap.size + 1 + 1 + 1 by omega)).trans KC.out.db.r2); unfold set4 at hkD y0 y1 y2 y3 y4 y5 z6; unfold set6 set4 at hkE HFIN; clear hrep hbC hxC KD hne1 hne2))
    clear hk0 hk1 hkC hkD hkE q0 q1 q2 q3 z4 y0 y1 y2 y3 y4 y5 z6
    go_wp2_with fail
    exact bodyPost_ret (results_two_cells rfl _ _ (w.heap.size + 1 + 1 + 1) (w.heap.size + 1 + 1 + 1 + 1) 28 36 _ _ (0, 0) (0, 0) _ _ rfl rfl HFIN.out.r1 HFIN.out.r2 Try.underlying28 rfl (by kernel_rfl) Try.underlying36 rfl (by kernel_rfl)) rfl (by rw [HD.out]; exact ⟨⟨ea, ec, la, lc, na, nc, ya, yc⟩, b1, e1, b2, e2, rfl, HFIN.out.me, HFIN.out.rep, HFIN.out.below⟩)
  subst hck
  have K2 := K2
  obtain ⟨s0, s1, s2, s3⟩ := K2.out.db.ss
  obtain ⟨g0, g1, g2, g3⟩ := K2.out.db.mm
  go_wp2_with fail
  refine (HRI.out w2 K2.out.db.below).mono ?_
  rintro e w3 ⟨rfl, hb⟩
  have K3 := Lib.hid (K2.out.on hb)
  clear hb K2 HRI s0 s1 s2 s3 g0 g1 g2 g3
  cases rg
  case false =>
    go_wp2_with fail
    obtain ⟨rr, hrr⟩ : ∃ r, r = wrongN fn 4 := ⟨_, rfl⟩
    have HC2 : Hid (∀ W, Below w3.heap.size w3 W → Calls Try.prog 22 #[b8 fn, .int .u8 4] W (Answers rr W)) := Lib.hid fun W _ => by
      rw [hrr]
      exact (Wrong_any fn 4 W).mono fun e w' ⟨he, hb⟩ => ⟨none, 0, none, 0, he, RepAt.nil rfl rfl, hb, fun x hx => by rcases hx with hx | hx <;> cases hx⟩
    rw [if_neg (by simp), if_pos trivial, ← hrr] at HD
    clear hrr
    have HBD := Lib.hid (Below.refl w3.heap.size w3).drew
    have KD := Lib.hid (K3.out.on HBD.out)
    have hk0 := K3.out.hold
    have hk1 := KD.out.hold
    go_region_held3 (fun w' => Hold w' t8 (w.heap.size + 1 + 1) (.slice ea m.coils.length ec) (.slice la m.inputs.length lc) (.slice na m.holding.length nc) (.slice ya m.words.length yc) (b8 fn) (b16 at_) (b16 many) (b16 to_) (.slice aw words.length cw) (.slice ab bits.length cb))
      (first
        | with_reducible exact hk0
        | with_reducible exact hk1
        | with_reducible exact hkC
        | with_reducible exact hkD
        | with_reducible exact hkE
        | go_keep)
      (first
        | (revert KD; intro KD; go_at_call 22; (with_reducible refine (HC2.out _ HBD.out).mono ?_); rintro e wC ⟨b1, e1, b2, e2, rfl, hrep, hbC, hxC⟩; have KC := Lib.hid (KD.out.on hbC); have hkC := KC.out.hold; obtain ⟨q0, q1, q2, q3, z4⟩ := quad_cells KC.out.db.r1; have hne1 : t8 ≠ w.heap.size + 1 + 1 + 1 := (by have := KC.out.ht; omega); have hne2 : t8 ≠ w.heap.size + 1 + 1 + 1 + 1 := (by have := KC.out.ht; omega); have hkD : Hold (set4 wC (w.heap.size + 1 + 1 + 1) (.slice ea m.coils.length ec) (.slice la m.inputs.length lc) (.slice na m.holding.length nc) (.slice ya m.words.length yc)) t8 (w.heap.size + 1 + 1) (.slice ea m.coils.length ec) (.slice la m.inputs.length lc) (.slice na m.holding.length nc) (.slice ya m.words.length yc) (b8 fn) (b16 at_) (b16 many) (b16 to_) (.slice aw words.length cw) (.slice ab bits.length cb) := hkC.to (set4_other hne1) (set4_other (by omega)); have hkE : Hold (set6 (set4 wC (w.heap.size + 1 + 1 + 1) (.slice ea m.coils.length ec) (.slice la m.inputs.length lc) (.slice na m.holding.length nc) (.slice ya m.words.length yc)) (w.heap.size + 1 + 1 + 1 + 1) (b8 rr.fn) (b8 rr.ex) (.slice b2 rr.bits.length e2) (.slice b1 rr.words.length e1) (b16 rr.at_) (b16 rr.many)) t8 (w.heap.size + 1 + 1) (.slice ea m.coils.length ec) (.slice la m.inputs.length lc) (.slice na m.holding.length nc) (.slice ya m.words.length yc) (b8 fn) (b16 at_) (b16 many) (b16 to_) (.slice aw words.length cw) (.slice ab bits.length cb) := hkD.to (set6_other hne2) (set6_other (by omega)); have HFIN := Lib.hid (Fin.mk' (q := ⟨ea, ec, la, lc, na, nc, ya, yc⟩) KC.out.db.below KC.out.db.r1 KC.out.db.r2 KC.out.own KC.out.hb hrep (fun x hx => Nat.lt_of_lt_of_le KD.out.db.lt (hxC x hx))); obtain ⟨y0, y1, y2, y3, y4, y5, z6⟩ := six_cells ((set4_other (W := wC) (v0 := (.slice ea m.coils.length ec)) (v1 := (.slice la m.inputs.length lc)) (v2 := (.slice na m.holding.length nc)) (v3 := (.slice ya m.words.length yc)) (show w.heap.size + 1 + 1 + 1 + 1 ≠ w.heap.size + 1 + 1 + 1 by omega)).trans KC.out.db.r2); unfold set4 at hkD y0 y1 y2 y3 y4 y5 z6; unfold set6 set4 at hkE HFIN; clear hrep hbC hxC KD hne1 hne2))
    clear hk0 hk1 hkC hkD hkE q0 q1 q2 q3 z4 y0 y1 y2 y3 y4 y5 z6
    go_wp2_with fail
    exact bodyPost_ret (results_two_cells rfl _ _ (w.heap.size + 1 + 1 + 1) (w.heap.size + 1 + 1 + 1 + 1) 28 36 _ _ (0, 0) (0, 0) _ _ rfl rfl HFIN.out.r1 HFIN.out.r2 Try.underlying28 rfl (by kernel_rfl) Try.underlying36 rfl (by kernel_rfl)) rfl (by rw [HD.out]; exact ⟨⟨ea, ec, la, lc, na, nc, ya, yc⟩, b1, e1, b2, e2, rfl, HFIN.out.me, HFIN.out.rep, HFIN.out.below⟩)
  obtain ⟨s0, s1, s2, s3⟩ := K3.out.db.ss
  obtain ⟨g0, g1, g2, g3, -⟩ := quad_cells K3.out.t
  go_wp2_with fail
  refine (HLA.out ⟨ea, ec, la, lc, na, nc, ya, yc⟩ w3).mono ?_
  rintro e w4 ⟨rfl, hb⟩
  have K4 := Lib.hid (K3.out.on hb)
  clear hb K3 HLA s0 s1 s2 s3 g0 g1 g2 g3
  have KX := Lib.hid (K4.out.on ((Below.refl w4.heap.size w4).alloc (Nat.le_refl _) (.cells #[.slice ca s.coils.length cc, .slice ea m.coils.length ec, .slice ia s.inputs.length ic, .slice la m.inputs.length lc, .slice ha s.holding.length hc, .slice na m.holding.length nc, .slice wa s.words.length wc, .slice ya m.words.length yc] 67)))
  have HROW : Hid ((w4.alloc (.cells #[.slice ca s.coils.length cc, .slice ea m.coils.length ec, .slice ia s.inputs.length ic, .slice la m.inputs.length lc, .slice ha s.holding.length hc, .slice na m.holding.length nc, .slice wa s.words.length wc, .slice ya m.words.length yc] 67)).heap[w4.heap.size]? = some (.cells #[.slice ca s.coils.length cc, .slice ea m.coils.length ec, .slice ia s.inputs.length ic, .slice la m.inputs.length lc, .slice ha s.holding.length hc, .slice na m.holding.length nc, .slice wa s.words.length wc, .slice ya m.words.length yc] 67 (0, 0))) := Lib.hid (heap_alloc_new w4 _)
  have HNG : Hid (∀ x : Addr, ea = some x ∨ na = some x → x.block ≠ w4.heap.size) := Lib.hid fun x hx => by
    rcases hx with hx | hx
    · have h1 := K4.out.own.coils; rw [show (⟨ea, ec, la, lc, na, nc, ya, yc⟩ : Pl).ca = some x from hx] at h1; have := (own_block h1).2; omega
    · have h1 := K4.out.own.holding; rw [show (⟨ea, ec, la, lc, na, nc, ya, yc⟩ : Pl).ha = some x from hx] at h1; have := (own_block h1).2; omega
  obtain ⟨a0, a1, a2, a3, a4, a5⟩ := KX.out.db.aa
  go_wp2_with fail
  generalize w4.alloc (.cells #[.slice ca s.coils.length cc, .slice ea m.coils.length ec, .slice ia s.inputs.length ic, .slice la m.inputs.length lc, .slice ha s.holding.length hc, .slice na m.holding.length nc, .slice wa s.words.length wc, .slice ya m.words.length yc] 67) = W4 at *
  generalize w4.heap.size = g at *
  have hlen : (writeM m ⟨fn, at_, many, to_, words, bits⟩).coils.length = m.coils.length ∧ (writeM m ⟨fn, at_, many, to_, words, bits⟩).inputs.length = m.inputs.length ∧ (writeM m ⟨fn, at_, many, to_, words, bits⟩).holding.length = m.holding.length ∧ (writeM m ⟨fn, at_, many, to_, words, bits⟩).words.length = m.words.length := by
    rcases HLEN.out with h | h
    · exact h
    · exact absurd ⟨(by first | trivial | rfl), (by first | trivial | rfl)⟩ h
  have HWF2 := Lib.hid (HWF.out (by first | trivial | rfl) (by first | trivial | rfl))
  have HRF2 := Lib.hid (HRF.out (by first | trivial | rfl) (by first | trivial | rfl))
  rw [if_neg (by simp), if_neg (by simp)] at HD
  clear HLEN HWF HRF a0 a1 a2 a3 a4 a5 K4
  have HWR2 := Lib.hid (HWR.out ⟨ea, ec, la, lc, na, nc, ya, yc⟩ g base W4 HROW.out KX.out.own KX.out.db.below HWF2.out)
  clear HWR
  generalize writeM m ⟨fn, at_, many, to_, words, bits⟩ = n at *
  obtain ⟨hl1, hl2, hl3, hl4⟩ := hlen
  have HL := Lib.hid (And.intro hl1 (And.intro hl2 (And.intro hl3 hl4)))
  have HSV : Hid (srvC s n ⟨ca, cc, ia, ic, ha, hc, wa, wc⟩ ⟨ea, ec, la, lc, na, nc, ya, yc⟩ = #[.slice ca s.coils.length cc, .slice ea m.coils.length ec, .slice ia s.inputs.length ic, .slice la m.inputs.length lc, .slice ha s.holding.length hc, .slice na m.holding.length nc, .slice wa s.words.length wc, .slice ya m.words.length yc]) := Lib.hid (by simp only [srvC, hl1, hl2, hl3, hl4])
  clear hl1 hl2 hl3 hl4
  refine HWR2.out.mono ?_
  rintro e w5 ⟨rfl, ho, ht⟩
  have K5 := Lib.hid (KX.out.turn ho ht)
  have HROW5 : Hid (w5.heap[g]? = some (.cells #[.slice ca s.coils.length cc, .slice ea m.coils.length ec, .slice ia s.inputs.length ic, .slice la m.inputs.length lc, .slice ha s.holding.length hc, .slice na m.holding.length nc, .slice wa s.words.length wc, .slice ya m.words.length yc] 67 (0, 0))) := Lib.hid ((ht.keep g (Array.getElem?_eq_some_iff.1 HROW.out).1 (fun x hx => HNG.out x (.inl hx)) (fun x hx => HNG.out x (.inr hx))).trans HROW.out)
  clear ho ht KX HROW HWR2 HNG
  go_wp2_with fail
  obtain ⟨rr, hrr⟩ : ∃ r, r = answerM n ⟨fn, at_, many, to_, words, bits⟩ := ⟨_, rfl⟩
  have HC2 : Hid (∀ W, Below w5.heap.size w5 W → Calls Try.prog 26 #[.pointer (some ⟨g, 0, none⟩), askV ⟨fn, at_, many, to_, words, bits⟩ aw cw ab cb] W (Answers rr W)) := Lib.hid fun W h => by
    rw [hrr]
    exact HAN.out ⟨ea, ec, la, lc, na, nc, ya, yc⟩ g W (by rw [HSV.out]; exact row_cell HROW5.out h) ((K5.out.on h).own.me) (K5.out.on h).db.below HRF2.out
  rw [← hrr] at HD
  clear hrr HAN HSV HROW5 HRF2 HWF2
  obtain ⟨hl1, hl2, hl3, hl4⟩ := HL.out
  have HBD := Lib.hid (Below.refl w5.heap.size w5).drew
  have KD := Lib.hid (K5.out.on HBD.out)
  have hk0 := K5.out.hold
  have hk1 := KD.out.hold
  go_region_held3 (fun w' => Hold w' t8 (w.heap.size + 1 + 1) (.slice ea m.coils.length ec) (.slice la m.inputs.length lc) (.slice na m.holding.length nc) (.slice ya m.words.length yc) (b8 fn) (b16 at_) (b16 many) (b16 to_) (.slice aw words.length cw) (.slice ab bits.length cb))
    (first
      | with_reducible exact hk0
      | with_reducible exact hk1
      | with_reducible exact hkC
      | with_reducible exact hkD
      | with_reducible exact hkE
      | go_keep)
    (first
      | (revert KD; intro KD; go_at_call 26; (with_reducible refine (HC2.out _ HBD.out).mono ?_); rintro e wC ⟨b1, e1, b2, e2, rfl, hrep, hbC, hxC⟩; have KC := Lib.hid (KD.out.on hbC); have hkC := KC.out.hold; obtain ⟨q0, q1, q2, q3, z4⟩ := quad_cells KC.out.db.r1; have hne1 : t8 ≠ w.heap.size + 1 + 1 + 1 := (by have := KC.out.ht; omega); have hne2 : t8 ≠ w.heap.size + 1 + 1 + 1 + 1 := (by have := KC.out.ht; omega); have hkD : Hold (set4 wC (w.heap.size + 1 + 1 + 1) (.slice ea m.coils.length ec) (.slice la m.inputs.length lc) (.slice na m.holding.length nc) (.slice ya m.words.length yc)) t8 (w.heap.size + 1 + 1) (.slice ea m.coils.length ec) (.slice la m.inputs.length lc) (.slice na m.holding.length nc) (.slice ya m.words.length yc) (b8 fn) (b16 at_) (b16 many) (b16 to_) (.slice aw words.length cw) (.slice ab bits.length cb) := hkC.to (set4_other hne1) (set4_other (by omega)); have hkE : Hold (set6 (set4 wC (w.heap.size + 1 + 1 + 1) (.slice ea m.coils.length ec) (.slice la m.inputs.length lc) (.slice na m.holding.length nc) (.slice ya m.words.length yc)) (w.heap.size + 1 + 1 + 1 + 1) (b8 rr.fn) (b8 rr.ex) (.slice b2 rr.bits.length e2) (.slice b1 rr.words.length e1) (b16 rr.at_) (b16 rr.many)) t8 (w.heap.size + 1 + 1) (.slice ea m.coils.length ec) (.slice la m.inputs.length lc) (.slice na m.holding.length nc) (.slice ya m.words.length yc) (b8 fn) (b16 at_) (b16 many) (b16 to_) (.slice aw words.length cw) (.slice ab bits.length cb) := hkD.to (set6_other hne2) (set6_other (by omega)); have HFIN := Lib.hid (Fin.mk' (q := ⟨ea, ec, la, lc, na, nc, ya, yc⟩) KC.out.db.below KC.out.db.r1 KC.out.db.r2 KC.out.own KC.out.hb hrep (fun x hx => Nat.lt_of_lt_of_le KD.out.db.lt (hxC x hx))); rw [hl1, hl2, hl3, hl4] at HFIN; obtain ⟨y0, y1, y2, y3, y4, y5, z6⟩ := six_cells ((set4_other (W := wC) (v0 := (.slice ea m.coils.length ec)) (v1 := (.slice la m.inputs.length lc)) (v2 := (.slice na m.holding.length nc)) (v3 := (.slice ya m.words.length yc)) (show w.heap.size + 1 + 1 + 1 + 1 ≠ w.heap.size + 1 + 1 + 1 by omega)).trans KC.out.db.r2); unfold set4 at hkD y0 y1 y2 y3 y4 y5 z6; unfold set6 set4 at hkE HFIN; clear hrep hbC hxC KD hne1 hne2))
  clear hk0 hk1 hkC hkD hkE q0 q1 q2 q3 z4 y0 y1 y2 y3 y4 y5 z6
  go_wp2_with fail
  exact bodyPost_ret (results_two_cells rfl _ _ (w.heap.size + 1 + 1 + 1) (w.heap.size + 1 + 1 + 1 + 1) 28 36 _ _ (0, 0) (0, 0) _ _ rfl rfl HFIN.out.r1 HFIN.out.r2 Try.underlying28 rfl (by kernel_rfl) Try.underlying36 rfl (by kernel_rfl)) rfl (by rw [HD.out]; exact ⟨⟨ea, ec, la, lc, na, nc, ya, yc⟩, b1, e1, b2, e2, rfl, HFIN.out.me, HFIN.out.rep, HFIN.out.below⟩)
end Go.Proofs.Ytamdpinfbadflaa.ModW

