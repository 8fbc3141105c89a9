/- RtuT: what was RtuReq, RtuA, RtuP, RtuT, RtuAwake. -/
import Derived.Test.YtenfcpdoingdeaaCrcKit
import Derived.Test.YtenfcpdoingdeaaReplyReq
import Derived.Test.YtenfcpdoingdeaaBack
import Derived.Test.YtenfcpdoingdeaaAskA
import Derived.Test.YtenfcpdoingdeaaAskBytes
import Derived.Test.YtenfcpdoingdeaaReplyParse
import Derived.Test.YtenfcpdoingdeaaAskKit
/- Frames on a serial line, as plain functions of bytes. -/
namespace Go.Proofs.Ytenfcpdoingdeaa.RtuM
open CrcM CrcW ReplyM
open AskM hiding putN

def unitB (u : UInt8) : Bool := decide (1 ≤ u.toNat) && decide (u.toNat ≤ 247)
/-- The error's number, and the frame. -/
def frameR (u : UInt8) (l : List UInt8) : Nat × List UInt8 := if unitB u = true ∧ 1 ≤ l.length ∧ l.length ≤ 253 then (0, putN (u :: l)) else (2, [])
/-- The error's number, the unit, and what is within. -/
def openR (b : List UInt8) : Nat × UInt8 × List UInt8 :=
  if b.length < 4 ∨ 256 < b.length then (10, 0, [])
  else match cutN b with
    | (0, u :: l) => if unitB u = true then (0, u, l) else (10, 0, [])
    | (0, []) => (10, 0, [])
    | (k + 1, _) => (k + 1, 0, [])
def askR (u : UInt8) (a : Req) : Nat × List UInt8 := match bytesN a with
  | some b => frameR u b
  | none => (12, [])
def replyR (u : UInt8) (b : List UInt8) : Nat × Option Rep :=
  if (openR b).1 ≠ 0 then ((openR b).1, none)
  else if (openR b).2.1 ≠ u then (10, none)
  else match rparseN (openR b).2.2 with
    | some q => (0, some q)
    | none => (13, none)

theorem putN_length (l : List UInt8) : (putN l).length = l.length + 2 := by simp [putN, tail2]
theorem cut_put (l : List UInt8) : cutN (putN l) = (0, l) := by
  have h1 : (putN l).drop ((putN l).length - 2) = tail2 (sumN l) := by
    rw [putN_length, show l.length + 2 - 2 = l.length by omega]; unfold putN; simp
  have h2 : (putN l).take ((putN l).length - 2) = l := by
    rw [putN_length, show l.length + 2 - 2 = l.length by omega]; unfold putN; simp
  unfold cutN
  rw [if_neg (by rw [putN_length]; omega), h2, h1, if_pos rfl]
theorem put_cut {b l : List UInt8} (h : cutN b = (0, l)) : putN l = b := by
  unfold cutN at h
  split at h
  · cases h
  split at h
  · rename_i h2
    injection h with _ h
    subst h
    unfold putN
    rw [← h2, List.take_append_drop]
  · cases h
theorem cut_sum {b : List UInt8} (hb : 2 ≤ b.length) : (cutN b).1 = if sumN b = 0 then 0 else 11 := by
  obtain ⟨l, x, y, rfl⟩ : ∃ l x y, b = l ++ [x, y] := by
    have hd : (b.drop (b.length - 2)).length = 2 := by rw [List.length_drop]; omega
    match hm : b.drop (b.length - 2), hd with
    | [x, y], _ => exact ⟨b.take (b.length - 2), x, y, by rw [← hm, List.take_append_drop]⟩
  have h1 : (l ++ [x, y]).take ((l ++ [x, y]).length - 2) = l := by simp
  have h2 : (l ++ [x, y]).drop ((l ++ [x, y]).length - 2) = [x, y] := by simp
  have h3 : sumN (l ++ [x, y]) = sumFrom (sumN l) [x, y] := sumFrom_append ..
  unfold cutN
  rw [if_neg (by omega), h1, h2, h3]
  by_cases h : [x, y] = tail2 (sumN l)
  · rw [if_pos h, if_pos (by rw [h]; exact sumFrom_own (sumN_lt l))]
  · rw [if_neg h, if_neg (fun h0 => h ((tail2_eq x y _ (sumN_lt l)).2 (sum_two (sumN_lt l) h0)))]
theorem put_sum (l : List UInt8) : sumN (putN l) = 0 := sumN_own l

theorem frame_ok {u : UInt8} {l b : List UInt8} (h : frameR u l = (0, b)) : unitB u = true ∧ 1 ≤ l.length ∧ l.length ≤ 253 ∧ b = putN (u :: l) := by
  unfold frameR at h
  split at h
  · rename_i hc
    injection h with _ h
    exact ⟨hc.1, hc.2.1, hc.2.2, h.symm⟩
  · cases h
theorem frame_cases (u : UInt8) (l : List UInt8) : (∃ b, frameR u l = (0, b) ∧ b.length = l.length + 3) ∨ (frameR u l = (2, []) ∧ ¬ (unitB u = true ∧ 1 ≤ l.length ∧ l.length ≤ 253)) := by
  unfold frameR
  split
  · exact .inl ⟨_, rfl, by rw [putN_length, List.length_cons]⟩
  · rename_i h
    exact .inr ⟨rfl, h⟩
theorem open_frame {u : UInt8} {l b : List UInt8} (h : frameR u l = (0, b)) : openR b = (0, u, l) := by
  obtain ⟨hu, h1, h2, rfl⟩ := frame_ok h
  unfold openR
  rw [if_neg (by rw [putN_length, List.length_cons]; omega), cut_put]
  simp only [hu, if_true]
theorem frame_open {u : UInt8} {l b : List UInt8} (h : openR b = (0, u, l)) : frameR u l = (0, b) := by
  unfold openR at h
  split at h
  · cases h
  rename_i hl
  split at h
  · rename_i u' l' hc
    split at h
    · rename_i hu
      injection h with _ h
      injection h with h1 h2
      subst h1 h2
      have hp := put_cut hc
      have hn : b.length = l'.length + 3 := by rw [← hp, putN_length, List.length_cons]
      unfold frameR
      rw [if_pos ⟨hu, by omega, by omega⟩, hp]
    · cases h
  · cases h
  · cases h
theorem open_err (b : List UInt8) : (∃ u l, openR b = (0, u, l)) ∨ (openR b = (10, 0, []) ∨ openR b = (11, 0, [])) := by
  unfold openR
  split
  · exact .inr (.inl rfl)
  rename_i hl
  have hc := cut_sum (b := b) (by omega)
  split
  · split
    · exact .inl ⟨_, _, rfl⟩
    · exact .inr (.inl rfl)
  · exact .inr (.inl rfl)
  · rename_i k _ he
    rw [he] at hc
    simp only at hc
    split at hc
    · omega
    · have hk : k = 10 := by omega
      subst hk
      exact .inr (.inr rfl)
theorem frame_inj {u v : UInt8} {l m b : List UInt8} (h1 : frameR u l = (0, b)) (h2 : frameR v m = (0, b)) : u = v ∧ l = m := by
  have e1 := open_frame h1
  rw [open_frame h2] at e1
  injection e1 with _ e1
  injection e1 with e1 e2
  exact ⟨e1.symm, e2.symm⟩
/-- A frame of which some bits within sixteen are turned is none: its check sum tells. -/
theorem open_spoilt {u : UInt8} {l b : List UInt8} (h : frameR u l = (0, b)) {at_ p : Nat} (hat : at_ ≤ 8 * b.length) : openR (spoilK b at_ p 16) = if anyK b at_ p 16 = true then (11, 0, []) else (0, u, l) := by
  obtain ⟨hu, h1, h2, hb⟩ := frame_ok h
  have hn : b.length = l.length + 3 := by rw [hb, putN_length, List.length_cons]
  by_cases ha : anyK b at_ p 16 = true
  · rw [if_pos ha]
    have hs := spoil_sum (l := b) (at_ := at_) (p := p) (by rw [hb]; exact put_sum _) hat ha
    have hc := cut_sum (b := spoilK b at_ p 16) (by rw [spoilK_length]; omega)
    rw [if_neg hs] at hc
    unfold openR
    rw [if_neg (by rw [spoilK_length]; omega)]
    split
    · rename_i he; rw [he] at hc; cases hc
    · rename_i he; rw [he] at hc; cases hc
    · rename_i he; rw [he] at hc; simp only at hc; rename_i k _; have hk : k = 10 := by omega
      subst hk; rfl
  · rw [if_neg ha, spoilK_same (by simpa using ha)]
    exact open_frame h
end Go.Proofs.Ytenfcpdoingdeaa.RtuM
/- Frames on a serial line: what package rtu makes, and opens. -/
open Go.RowKit
namespace Go.Proofs.Ytenfcpdoingdeaa.RtuW
open CrcM CrcW RtuM AskW Mem

theorem isUnit_any (u : UInt8) (w : World) : Calls Try.prog 65 #[b8 u] w fun e w' => e = .returned (.bool (unitB u)) ∧ w = w' := by
  have hu := u.toNat_lt
  by_cases h1 : 1 ≤ u.toNat
  · have t1 : decide ((1 : Int) ≤ (u.toNat : Int)) = true := by simp; omega
    go_enter Try.func65, Try.ntmps65
    go_wp2_with fail
    go_ret
    exact ⟨ret_bool (by unfold unitB; rw [decide_eq_true h1]; simp; omega), rfl⟩
  · have t1 : decide ((1 : Int) ≤ (u.toNat : Int)) = false := by simp; omega
    go_enter Try.func65, Try.ntmps65
    go_wp2_with fail
    go_ret
    exact ⟨ret_bool (by unfold unitB; rw [decide_eq_false h1]; simp), rfl⟩

theorem own_lower {w : World} {b b' : Nat} {T : TypeId} {v : Value} {n : Nat} {xs : List Value} (h : w.ownsRow b T 1 v n xs) (hb : b' ≤ b) : w.ownsRow b' T 1 v n xs := by
  refine ⟨h.1, ?_⟩
  rcases h.2 with h0 | ⟨g, cap, cur, h1, h2, h3⟩
  · exact .inl h0
  · exact .inr ⟨g, cap, cur, h1, Nat.le_trans hb h2, h3⟩
theorem own_one (w : World) (x : Value) (T : TypeId) : (w.alloc (.cells #[x] T)).ownsRow w.heap.size T 1 (.slice (some ⟨w.heap.size, 0, none⟩) 1 1) 1 [x] :=
  own_of_row (cs := [x]) (n := 1) (heap_alloc_new w (.cells #[x] T)) (Nat.le_refl _) (by simp; unfold maxLen; omega) (Nat.le_refl _)
/-- Bytes in a row that the call made, and an error's number. -/
def OwnGives (r : Nat × List UInt8) (w : World) (e : Ending) (w' : World) : Prop :=
  ∃ v, e = .returned (.tuple #[v, .int .i64 (r.1 : Int)]) ∧ w'.ownsRow w.heap.size 5 1 v r.2.length (r.2.map b8) ∧ Below w.heap.size w w'
theorem OwnGives.none_ {r : Nat × List UInt8} {w w' : World} {k : Nat} (hr : r = (k, [])) (h : Below w.heap.size w w') : OwnGives r w (.returned (.tuple #[.slice none 0 0, .int .i64 (k : Int)])) w' := by
  subst hr
  exact ⟨_, rfl, World.ownsRow_nil _ _ _ _, h⟩

theorem frame_bad {u : UInt8} {l : List UInt8} (h : unitB u = false ∨ l.length < 1 ∨ 253 < l.length) : frameR u l = (2, []) := by
  unfold frameR
  rw [if_neg]
  rintro ⟨h1, h2, h3⟩
  rcases h with h | h | h
  · rw [h] at h1; cases h1
  · omega
  · omega

set_option maxRecDepth 100000 in
set_option maxHeartbeats 1000000 in
theorem Bytes_own (u : UInt8) (a : Option Addr) (n c : Nat) (l : List UInt8) (w : World) (hl : Sl b8 w w.heap.size a n c l) :
    Calls Try.prog 39 #[b8 u, .slice a n c] w (OwnGives (frameR u l) w) := by
  have hlen := hl.len
  have hu := u.toNat_lt
  have hn := len_le hl
  cases hb : unitB u with
  | false =>
    have HR := Lib.hid (frame_bad (l := l) (.inl hb))
    go_enter Try.func39, Try.ntmps39
    go_wp2_with fail
    refine (isUnit_any u w).mono ?_
    rw [hb]
    rintro e w1 ⟨rfl, rfl⟩
    clear hb
    go_wp2_with fail
    go_ret2
    exact OwnGives.none_ HR.out (Below.refl _ _)
  | true =>
    have HU := Lib.hid hb
    clear hb
    by_cases h1 : n < 1
    · have HR := Lib.hid (frame_bad (u := u) (l := l) (.inr (.inl (by omega))))
      have t1 : decide ((n : Int) < 1) = true := by simp; omega
      clear h1
      go_enter Try.func39, Try.ntmps39
      go_wp2_with fail
      refine (isUnit_any u w).mono ?_
      rw [HU.out]
      rintro e w1 ⟨rfl, rfl⟩
      go_wp2_with fail
      go_ret2
      exact OwnGives.none_ HR.out (Below.refl _ _)
    have t1 : decide ((n : Int) < 1) = false := by simp; omega
    by_cases h2 : 253 < n
    · have HR := Lib.hid (frame_bad (u := u) (l := l) (.inr (.inr (by omega))))
      have t2 : decide (253 < (n : Int)) = true := by simp; omega
      clear h1 h2
      go_enter Try.func39, Try.ntmps39
      go_wp2_with fail
      refine (isUnit_any u w).mono ?_
      rw [HU.out]
      rintro e w1 ⟨rfl, rfl⟩
      go_wp2_with fail
      go_ret2
      exact OwnGives.none_ HR.out (Below.refl _ _)
    have t2 : decide (253 < (n : Int)) = false := by simp; omega
    have HR : Hid (frameR u l = (0, putN (u :: l))) := by unfold Hid frameR; rw [if_pos ⟨HU.out, by omega, by omega⟩]
    obtain ⟨i0, hi, hz0, hz1, hz2⟩ := info_parts CrcW.info8
    have hz2' : i0.bytes = 1 := hz2
    have HL := Lib.hid hl
    clear hl
    go_enter Try.func39, Try.ntmps39
    go_wp2_with fail
    refine (isUnit_any u w).mono ?_
    rw [HU.out]
    rintro e w1 ⟨rfl, rfl⟩
    go_wp2_with (at_builtin; go_loud (refine wpList_append_sl (f := b8) b8_one rfl (.tmp 20) (.tmp 21) 27 rfl w.heap.size 5 i0 (.int .u8 0) 1 Try.underlying27 hi hz0 hz1 hz2' rfl (.slice (some ⟨w.heap.size, 0, none⟩) 1 1) 1 [b8 u] rfl (own_one w (b8 u) _) a n c rfl (HL.out.alloc (Nat.le_refl _) _) (by unfold maxLen; omega) (by omega) (by simp) ?_; intro v4 w4 hown4 hgrow4; rw [show [b8 u] ++ l.map b8 = (u :: l).map b8 from rfl] at hown4; have HW4 := Lib.hid (((Below.refl w.heap.size w).alloc (Nat.le_refl _) (.cells #[b8 u] 5)).grown hgrow4 (by simp) (by simp [Value.ownBlock])); obtain ⟨g, cap, hv4, hg1, hg2, hov, hSg⟩ := own_at hown4 (by omega); subst hv4; clear hown4 hgrow4 hov))
    refine (Put_own _ _ _ _ _ hSg (by omega)).mono ?_
    rintro e w5 ⟨v, rfl, hown, hb⟩
    go_wp2_with fail
    go_ret2
    rw [HR.out]
    refine ⟨v, rfl, ?_, HW4.out.trans (hb.mono HW4.out.size)⟩
    rw [show (putN (u :: l)).length = 1 + n + 2 by rw [putN_length, List.length_cons, hlen]; omega]
    exact own_lower hown HW4.out.size
end Go.Proofs.Ytenfcpdoingdeaa.RtuW
/- What is opened of a frame. -/
open Go.RowKit
namespace Go.Proofs.Ytenfcpdoingdeaa.RtuW
open CrcM CrcW RtuM AskW Mem

/-- What is opened of a frame, in memory of its own. -/
def OpenGives (r : Nat × UInt8 × List UInt8) (w : World) (e : Ending) (w' : World) : Prop :=
  ∃ a c, e = .returned (.tuple #[b8 r.2.1, .slice a r.2.2.length c, .int .i64 (r.1 : Int)]) ∧ Sl b8 w' w'.heap.size a r.2.2.length c r.2.2 ∧ Below w.heap.size w w' ∧ ∀ x : Addr, a = some x → w.heap.size ≤ x.block
theorem OpenGives.none_ {r : Nat × UInt8 × List UInt8} {w w' : World} {k : Nat} (hr : r = (k, 0, [])) (h : Below w.heap.size w w') : OpenGives r w (.returned (.tuple #[.int .u8 0, .slice none 0 0, .int .i64 (k : Int)])) w' := by
  subst hr
  exact ⟨none, 0, rfl, Sl.none_, h, fun _ h => by cases h⟩

theorem open_len {b : List UInt8} (h : b.length < 4 ∨ 256 < b.length) : openR b = (10, 0, []) := by unfold openR; rw [if_pos h]
theorem open_cut {b : List UInt8} {k : Nat} {l : List UInt8} (h : ¬ (b.length < 4 ∨ 256 < b.length)) (hc : cutN b = (k + 1, l)) : openR b = (k + 1, 0, []) := by unfold openR; rw [if_neg h, hc]
theorem open_unit {b : List UInt8} {u : UInt8} {l : List UInt8} (h : ¬ (b.length < 4 ∨ 256 < b.length)) (hc : cutN b = (0, u :: l)) (hu : unitB u = false) : openR b = (10, 0, []) := by unfold openR; rw [if_neg h, hc]; simp [hu]
theorem open_ok {b : List UInt8} {u : UInt8} {l : List UInt8} (h : ¬ (b.length < 4 ∨ 256 < b.length)) (hc : cutN b = (0, u :: l)) (hu : unitB u = true) : openR b = (0, u, l) := by unfold openR; rw [if_neg h, hc]; simp [hu]

set_option maxRecDepth 100000 in
set_option maxHeartbeats 1000000 in
theorem Parse_any (a : Option Addr) (n c : Nat) (b : List UInt8) (w : World) (hl : Sl b8 w w.heap.size a n c b) :
    Calls Try.prog 41 #[.slice a n c] w (OpenGives (openR b) w) := by
  have hlen := hl.len
  have hn := len_le hl
  by_cases h1 : n < 4
  · have HR := Lib.hid (open_len (b := b) (.inl (by omega)))
    have t1 : decide ((n : Int) < 4) = true := by simp; omega
    clear h1
    go_enter Try.func41, Try.ntmps41
    go_wp2_with fail
    go_ret3
    exact OpenGives.none_ HR.out (Below.refl _ _)
  have t1 : decide ((n : Int) < 4) = false := by simp; omega
  by_cases h2 : 256 < n
  · have HR := Lib.hid (open_len (b := b) (.inr (by omega)))
    have t2 : decide (256 < (n : Int)) = true := by simp; omega
    clear h1 h2
    go_enter Try.func41, Try.ntmps41
    go_wp2_with fail
    go_ret3
    exact OpenGives.none_ HR.out (Below.refl _ _)
  have t2 : decide (256 < (n : Int)) = false := by simp; omega
  have hb : ¬ (b.length < 4 ∨ 256 < b.length) := by omega
  have hcs := cut_sum (b := b) (by omega)
  have hC := Cut_own a n c b w hl (by omega)
  cases hk : cutN b with
  | mk k m =>
    rw [hk] at hC
    cases k with
    | succ k =>
      have hk10 : k = 10 := by rw [hk] at hcs; simp only at hcs; split at hcs <;> omega
      subst hk10
      have HR := Lib.hid (open_cut hb hk)
      have HC := Lib.hid hC
      clear h1 h2 hb hcs hC hk
      go_enter Try.func41, Try.ntmps41
      go_wp2_with fail
      refine HC.out.mono ?_
      rintro e w1 ⟨a1, c1, rfl, -, hb1, -⟩
      go_wp2_with fail
      go_ret3
      exact OpenGives.none_ HR.out hb1
    | zero =>
      have hm : m.length + 2 = n := by
        have h := put_cut hk
        rw [← hlen, ← h, putN_length]
      obtain ⟨u, l, rfl⟩ : ∃ u l, m = u :: l := by
        cases m with
        | nil => simp at hm; omega
        | cons u l => exact ⟨u, l, rfl⟩
      rw [List.length_cons] at hm
      cases hu : unitB u with
      | false =>
        have HR := Lib.hid (open_unit hb hk hu)
        have HC := Lib.hid hC
        have HU := Lib.hid hu
        clear h1 h2 hb hcs hC hk hu
        go_enter Try.func41, Try.ntmps41
        go_wp2_with fail
        refine HC.out.mono ?_
        rintro e w1 ⟨a1, c1, rfl, hs, hb1, -⟩
        obtain ⟨bb, off, rfl, -, hcell⟩ := hs.cells (by simp)
        have h0 := hcell 0 u rfl
        rw [Nat.add_zero] at h0
        clear hcell hs
        simp only [List.length_cons] at *
        go_wp2_with fail
        refine (isUnit_any u _).mono ?_
        rw [HU.out]
        rintro e w2 ⟨rfl, rfl⟩
        go_wp2_with fail
        go_ret3
        exact OpenGives.none_ HR.out hb1
      | true =>
        obtain ⟨y, l, rfl⟩ : ∃ y l', l = y :: l' := by
          cases l with
          | nil => simp at hm; omega
          | cons y l => exact ⟨y, l, rfl⟩
        rw [List.length_cons] at hm
        have HR := Lib.hid (open_ok hb hk hu)
        have HC := Lib.hid hC
        have HU := Lib.hid hu
        clear h1 h2 hb hcs hC hk hu
        go_enter Try.func41, Try.ntmps41
        go_wp2_with fail
        refine HC.out.mono ?_
        rintro e w1 ⟨a1, c1, rfl, hs, hb1, hx⟩
        have hc1 : l.length + 1 + 1 ≤ c1 := by have := hs.nle; simpa using this
        have hc2 : c1 ≤ 9223372036854775807 := by have := hs.cle; unfold maxLen at this; exact this
        obtain ⟨bb, off, rfl, -, hcell⟩ := hs.cells (by simp)
        have h0 := hcell 0 u rfl
        rw [Nat.add_zero] at h0
        have HX := Lib.hid hx
        have HB := Lib.hid hb1
        have HS := Lib.hid hs
        clear hcell hs hx hb1
        simp only [List.length_cons] at *
        go_wp2_with fail
        refine (isUnit_any u _).mono ?_
        rw [HU.out]
        rintro e w2 ⟨rfl, rfl⟩
        go_wp2_with fail
        go_region
        go_wp2_with fail
        go_ret3
        rw [HR.out]
        refine ⟨_, _, rfl, ?_, HB.out.drew, fun x hx => ?_⟩
        · obtain ⟨b', off', he, hlt, hcell⟩ := HS.out.cells (by simp)
          injection he with he
          injection he with he1 he2
          subst he1 he2
          refine ⟨rfl, Nat.le_refl _, by unfold maxLen; omega, (fun h => by cases h), fun hn => ⟨bb, off + 1, rfl, hlt, fun i x hx => ?_⟩⟩
          · have h := hcell (i + 1) x hx
            rw [Nat.add_assoc, Nat.add_comm 1 i]
            exact h
        · injection hx with hx
          subst hx
          exact HX.out ⟨bb, off, none⟩ rfl
end Go.Proofs.Ytenfcpdoingdeaa.RtuW
/- Requests and replies in frames. -/
open Go.RowKit
namespace Go.Proofs.Ytenfcpdoingdeaa.RtuW
open AskM AskW ReplyM ReplyW RtuM Mem

theorem OwnGives.on {r : Nat × List UInt8} {w w1 w' : World} {e : Ending} (hb : Below w.heap.size w w1) (h : OwnGives r w1 e w') : OwnGives r w e w' := by
  obtain ⟨v, he, ho, hb2⟩ := h
  exact ⟨v, he, own_lower ho hb.size, hb.trans (hb2.mono hb.size)⟩
theorem askR_none {u : UInt8} {a : Req} (h : bytesN a = none) : askR u a = (12, []) := by unfold askR; rw [h]
theorem askR_some {u : UInt8} {a : Req} {b : List UInt8} (h : bytesN a = some b) : askR u a = frameR u b := by unfold askR; rw [h]

set_option maxRecDepth 100000 in
set_option maxHeartbeats 1000000 in
theorem Ask_own (u : UInt8) (a : Req) (aw : Option Addr) (cw : Nat) (ab : Option Addr) (cb : Nat) (w : World) (hA : AskAt w w.heap.size a aw cw ab cb) (hnw : a.words.length ≤ 1000000) (hnb : a.bits.length ≤ 1000000) :
    Calls Try.prog 43 #[b8 u, askV a aw cw ab cb] w (OwnGives (askR u a) w) := by
  have hBy := fun o => Bytes_any a aw cw ab cb (w.alloc o) ⟨(hA.words.alloc (Nat.le_refl _) o).more (by simp), (hA.bits.alloc (Nat.le_refl _) o).more (by simp)⟩ hnw hnb
  obtain ⟨f1, a1, m1, t1, ws, bs⟩ := a
  have hB0 := fun o => (Below.refl w.heap.size w).alloc (Nat.le_refl _) o
  clear hA
  cases hb : bytesN ⟨f1, a1, m1, t1, ws, bs⟩ with
  | none =>
    have HR := Lib.hid (askR_none (u := u) hb)
    rw [hb] at hBy
    clear hb
    go_enter Try.func43, Try.ntmps43
    go_wp2_with fail
    refine (hBy _).mono ?_
    rintro e w1 ⟨rfl, hb1⟩
    have HB := Lib.hid ((hB0 _).trans (hb1.mono (hB0 _).size))
    clear hb1 hB0 hBy
    go_wp2_with fail
    go_ret2
    exact OwnGives.none_ HR.out HB.out
  | some l =>
    have HR := Lib.hid (askR_some (u := u) hb)
    rw [hb] at hBy
    clear hb
    go_enter Try.func43, Try.ntmps43
    go_wp2_with fail
    refine (hBy _).mono ?_
    rintro e w1 ⟨x1, c1, rfl, hs, hb1, -⟩
    have HB := Lib.hid ((hB0 _).trans (hb1.mono (hB0 _).size))
    clear hb1 hB0 hBy
    go_wp2_with fail
    refine (Bytes_own u _ _ _ _ _ hs).mono ?_
    intro e w2 h
    have h := OwnGives.on HB.out h
    rw [← HR.out] at h
    generalize askR u ⟨f1, a1, m1, t1, ws, bs⟩ = r at *
    obtain ⟨v, rfl, ho, hb2⟩ := h
    go_wp2_with fail
    go_ret2
    exact ⟨v, rfl, ho, hb2⟩

/-- A reply, and an error's number. -/
def ReplyGives (r : Nat × Option Rep) (w : World) (e : Ending) (w' : World) : Prop :=
  ∃ aw cw ab cb, e = .returned (.tuple #[repV (r.2.getD zeroR) aw cw ab cb, .int .i64 (r.1 : Int)]) ∧ RepAt w' w'.heap.size (r.2.getD zeroR) aw cw ab cb ∧ Below w.heap.size w w' ∧ ∀ x : Addr, aw = some x ∨ ab = some x → w.heap.size ≤ x.block
theorem ReplyGives.none_ {r : Nat × Option Rep} {w w' : World} {k : Nat} (hr : r = (k, none)) (h : Below w.heap.size w w') : ReplyGives r w (.returned (.tuple #[.agg zeroRC, .int .i64 (k : Int)])) w' := by
  subst hr
  exact ⟨none, 0, none, 0, rfl, RepAt.nil rfl rfl, h, fun x hx => by rcases hx with hx | hx <;> cases hx⟩
theorem replyR_err {u : UInt8} {b : List UInt8} {k : Nat} (h : openR b = (k + 1, 0, [])) : replyR u b = (k + 1, none) := by unfold replyR; rw [h]; simp
theorem replyR_other {u v : UInt8} {b l : List UInt8} (h : openR b = (0, v, l)) (hv : v ≠ u) : replyR u b = (10, none) := by unfold replyR; rw [h]; simp [hv]
theorem replyR_one {u : UInt8} {b l : List UInt8} (h : openR b = (0, u, l)) : replyR u b = (if (rparseN l).isSome = true then 0 else 13, rparseN l) := by
  unfold replyR; rw [h]; simp only [ne_eq, not_true, if_false]
  cases rparseN l <;> rfl
theorem sl_setRow {α : Type} {f : α → Value} {w : World} {B n c g : Nat} {a : Option Addr} {l : List α} (h : Sl f w B a n c l) (hx : ∀ x : Addr, a = some x → g < x.block) (cs : Array Value) : Sl f (w.setRow g cs) B a n c l := by
  obtain ⟨h1, h2, h3, h5, h4⟩ := h
  refine ⟨h1, h2, h3, h5, fun hn => ?_⟩
  obtain ⟨b, off, e, hb, hc⟩ := h4 hn
  have hg := hx _ e
  simp only at hg
  refine ⟨b, off, e, hb, fun i x hi => ?_⟩
  rw [← hc i x hi]
  exact World.cell?_of_block (w := w) (a := ⟨b, off + i, none⟩) (setRow_other w g b cs (by omega))
theorem rep_setRow {w : World} {r : Rep} {aw ab : Option Addr} {cw cb g : Nat} (h : RepAt w w.heap.size r aw cw ab cb) (hx : ∀ x : Addr, aw = some x ∨ ab = some x → g < x.block) (cs : Array Value) : RepAt (w.setRow g cs) (w.setRow g cs).heap.size r aw cw ab cb := by
  rw [show (w.setRow g cs).heap.size = w.heap.size by simp [World.setRow]]
  exact ⟨sl_setRow h.words (fun x e => hx x (.inl e)) cs, sl_setRow h.bits (fun x e => hx x (.inr e)) cs⟩
theorem row_on {w w1 : World} {cs : Array Value} {T : TypeId} (h : Below (w.alloc (.cells cs T)).heap.size (w.alloc (.cells cs T)) w1) : w1.heap[w.heap.size]? = some (.cells cs T (0, 0)) :=
  (h.block _ (by simp)).trans (heap_alloc_new w _)

set_option maxRecDepth 100000 in
set_option maxHeartbeats 1000000 in
theorem Reply_any (u : UInt8) (a : Option Addr) (n c : Nat) (b : List UInt8) (w : World) (hl : Sl b8 w w.heap.size a n c b) :
    Calls Try.prog 45 #[b8 u, .slice a n c] w (ReplyGives (replyR u b) w) := by
  have hP := fun o => Parse_any a n c b (w.alloc o) ((hl.alloc (Nat.le_refl _) o).more (by simp))
  have hB0 := fun o => (Below.refl w.heap.size w).alloc (Nat.le_refl _) o
  clear hl
  rcases open_err b with ⟨v, l, ho⟩ | ho
  · rw [ho] at hP
    by_cases hv : v = u
    · subst hv
      have HR := Lib.hid (replyR_one ho)
      clear ho
      go_enter Try.func45, Try.ntmps45
      go_wp2_with fail
      refine (hP _).mono ?_
      rintro e w1 ⟨a1, c1, rfl, hs, hb1, hx⟩
      have HB := Lib.hid ((hB0 (.cells zeroRC 45)).trans (hb1.mono (hB0 _).size))
      have HRow := Lib.hid (row_on hb1)
      have HPA := Lib.hid (RParse_any _ _ _ _ _ hs)
      have hlt : w.heap.size < w1.heap.size := by have := hb1.size; simp at this; omega
      clear hP hs hb1 hx hB0
      have tv : ((v.toNat : Int) != (v.toNat : Int)) = false := by simp
      go_wp2_with fail
      refine HPA.out.mono ?_
      rintro e w2 ⟨aw, cw, ab, cb, rfl, hA, hb2, hx2⟩
      have HRow2 := Lib.hid ((hb2.block _ hlt).trans HRow.out)
      have HB2 := Lib.hid (HB.out.trans (hb2.mono HB.out.size))
      have HA := Lib.hid hA
      have HX := Lib.hid hx2
      have HZ := Lib.hid (Nat.lt_of_lt_of_le hlt hb2.size)
      have HLT := Lib.hid hlt
      clear hA hx2 hb2 HRow HB HPA tv hlt
      generalize hq : (rparseN l).getD zeroR = q at *
      generalize her : (if (rparseN l).isSome = true then (0 : Int) else 13) = er at *
      have HER := Lib.hid her
      clear her
      obtain ⟨f2, x2, bs, ws, a2, m2⟩ := q
      go_wp2_with (refine wpList_store_row rfl 45 (.tmp 4) (.tmp 25) rfl w.heap.size #[b8 f2, b8 x2, .slice ab bs.length cb, .slice aw ws.length cw, b16 a2, b16 m2] rfl rfl 45 zeroRC HRow2.out (by kernel_rfl) (by kernel_rfl) (by kernel_rfl) ?_)
      have hBS := below_setRow HB2.out (Nat.le_refl _) #[b8 f2, b8 x2, .slice ab bs.length cb, .slice aw ws.length cw, b16 a2, b16 m2]
      refine bodyPost_ret (v := .tuple #[repV ⟨f2, x2, bs, ws, a2, m2⟩ aw cw ab cb, .int .i64 er]) (results_cell_row_tmp rfl _ _ w.heap.size 45 _ (0, 0) _ rfl (setRow_heap _ _ _ _ _ _ HRow2.out) Try.underlying45 rfl (by kernel_rfl) _ rfl) rfl ?_
      rw [HR.out]
      refine ⟨aw, cw, ab, cb, ?_, ?_, hBS, fun x hx => Nat.le_trans (Nat.le_of_lt HLT.out) (HX.out x hx)⟩
      · simp only [hq, ← HER.out]
        split <;> rfl
      · simp only [hq]
        exact rep_setRow HA.out (fun x hx => Nat.lt_of_lt_of_le HLT.out (HX.out x hx)) _
    · have HR := Lib.hid (replyR_other ho hv)
      have tv : ((v.toNat : Int) != (u.toNat : Int)) = true := by rw [bne, ne8 hv]; rfl
      clear ho hv
      go_enter Try.func45, Try.ntmps45
      go_wp2_with fail
      refine (hP _).mono ?_
      rintro e w1 ⟨a1, c1, rfl, hs, hb1, hx⟩
      have HB := Lib.hid ((hB0 (.cells zeroRC 45)).trans (hb1.mono (hB0 _).size))
      have HRow := Lib.hid (row_on hb1)
      clear hP hs hb1 hx hB0
      go_wp2_with (refine wpList_store_row rfl 45 (.tmp 4) (.tmp 22) rfl w.heap.size zeroRC rfl rfl 45 zeroRC HRow.out (by kernel_rfl) (by kernel_rfl) (by kernel_rfl) ?_)
      exact bodyPost_ret (v := .tuple #[.agg zeroRC, .int .i64 10]) (results_cell_row_tmp rfl _ _ w.heap.size 45 _ (0, 0) _ rfl (setRow_heap _ _ _ _ _ _ HRow.out) Try.underlying45 rfl (by kernel_rfl) _ rfl) rfl (ReplyGives.none_ HR.out (below_setRow HB.out (Nat.le_refl _) _))
  · obtain ⟨k, hk⟩ : ∃ k, openR b = (k + 1, 0, []) := by rcases ho with h | h <;> exact ⟨_, h⟩
    have HR := Lib.hid (replyR_err (u := u) hk)
    rw [hk] at hP
    have tk : ((k + 1 : Nat) : Int) = (k : Int) + 1 := by omega
    have tn : ((k : Int) + 1 != 0) = true := by simp; omega
    clear ho hk
    go_enter Try.func45, Try.ntmps45
    go_wp2_with fail
    refine (hP _).mono ?_
    rintro e w1 ⟨a1, c1, rfl, hs, hb1, hx⟩
    have HB := Lib.hid ((hB0 (.cells zeroRC 45)).trans (hb1.mono (hB0 _).size))
    have HRow := Lib.hid (row_on hb1)
    clear hP hs hb1 hx hB0
    simp only [tk]
    go_wp2_with (refine wpList_store_row rfl 45 (.tmp 4) (.tmp 17) rfl w.heap.size zeroRC rfl rfl 45 zeroRC HRow.out (by kernel_rfl) (by kernel_rfl) (by kernel_rfl) ?_)
    exact bodyPost_ret (v := .tuple #[.agg zeroRC, .int .i64 ((k : Int) + 1)]) (results_cell_row_tmp rfl _ _ w.heap.size 45 _ (0, 0) _ rfl (setRow_heap _ _ _ _ _ _ HRow.out) Try.underlying45 rfl (by kernel_rfl) _ rfl) rfl (by
      have h := ReplyGives.none_ HR.out (below_setRow HB.out (Nat.le_refl _) zeroRC)
      simp only [tk] at h
      exact h)
end Go.Proofs.Ytenfcpdoingdeaa.RtuW
/- The examples of the chapter on frames. -/
open Go.RowKit
namespace Go.Proofs.Ytenfcpdoingdeaa.RtuW
open AskM AskW ReplyM ReplyW RtuM Mem

theorem Ask_at (v v2 : Value) (u : UInt8) (a : Req) (r : Nat × List UInt8) (w : World) (hv : v = b8 u) (hv2 : v2 = askV a none 0 none 0) (hw : a.words = []) (hb : a.bits = []) (hr : askR u a = r) :
    Calls Try.prog 43 #[v, v2] w (OwnGives r w) := by
  subst hv hv2 hr
  exact Ask_own u a none 0 none 0 w ⟨by rw [hw]; exact Sl.none_, by rw [hb]; exact Sl.none_⟩ (by rw [hw]; simp) (by rw [hb]; simp)
theorem Reply_at (v : Value) (u : UInt8) (r : Nat × Option Rep) (a : Option Addr) (n c : Nat) (b : List UInt8) (w : World) (hv : v = b8 u) (hl : Sl b8 w w.heap.size a n c b) (hr : replyR u b = r) :
    Calls Try.prog 45 #[v, .slice a n c] w (ReplyGives r w) := by
  subst hv hr
  exact Reply_any u a n c b w hl
theorem qex1 : askR 1 ⟨3, 0, 10, 0, [], []⟩ = (0, [1, 3, 0, 0, 0, 10, 197, 205]) := by decide +kernel
theorem qex2 : replyR 1 [1, 131, 2, 192, 241] = (0, some ⟨3, 2, [], [], 0, 0⟩) := by decide +kernel
theorem qex3 : replyR 2 [1, 131, 2, 192, 241] = (10, none) := by decide +kernel

set_option maxRecDepth 100000 in
set_option maxHeartbeats 4000000 in
theorem qawake_any (w : World) : Calls Try.prog 38 #[] w (Says (.bool true) w) := by
  go_enter Try.func38, Try.ntmps38
  go_wp2_with fail
  refine (Ask_at _ _ 1 ⟨3, 0, 10, 0, [], []⟩ _ _ rfl rfl rfl rfl qex1).mono ?_
  rintro e w1 ⟨v, rfl, ho, hb⟩
  obtain ⟨a1, c1, rfl, hs1⟩ := Sl.of_own ho
  have B1 := hb
  have Z1 := B1.size
  have HS1 := Lib.hid hs1
  clear hb ho hs1
  simp only [List.length_cons, List.length_nil, Nat.zero_add] at *
  go_wp2_with fail
  refine (Reply_at _ 1 _ _ 5 5 [1, 131, 2, 192, 241] _ rfl (Sl.new _ _ _ _ _ _ rfl rfl (by omega)) qex2).mono ?_
  rintro e w2 ⟨aw, cw, ab, cb, rfl, hA, hb, -⟩
  have B2 := below_next B1 Z1 hb
  have HS2 := Lib.hid ((HS1.out.next (Nat.le_refl _) hb).more (by have := hb.size; simp at this; omega : w1.heap.size ≤ w2.heap.size))
  have HA2 := Lib.hid hA
  have Z2 := B2.size
  clear hb HS1 hA
  simp only [Option.getD_some] at *
  go_wp2_with fail
  have HZa : Hid ((w2.alloc (.cells #[.int .u8 3, .int .u8 2, .slice ab 0 cb, .slice aw 0 cw, .int .u16 0, .int .u16 0] 45)).heap.size = w2.heap.size + 1) := Lib.hid (by simp)
  have HRa := Lib.hid (heap_alloc_new w2 (.cells #[.int .u8 3, .int .u8 2, .slice ab 0 cb, .slice aw 0 cw, .int .u16 0, .int .u16 0] 45))
  have HBa := Lib.hid ((Below.refl w2.heap.size w2).alloc (Nat.le_refl _) (.cells #[.int .u8 3, .int .u8 2, .slice ab 0 cb, .slice aw 0 cw, .int .u16 0, .int .u16 0] 45))
  generalize w2.alloc (.cells #[.int .u8 3, .int .u8 2, .slice ab 0 cb, .slice aw 0 cw, .int .u16 0, .int .u16 0] 45) = W2 at *
  have hz : w2.heap.size + 1 = W2.heap.size := HZa.out.symm
  refine (Reply_at _ 2 _ _ 5 5 [1, 131, 2, 192, 241] _ rfl (by rw [hz]; exact Sl.new _ _ _ _ _ _ rfl rfl (by omega)) qex3).mono ?_
  rintro e w3 ⟨aw3, cw3, ab3, cb3, rfl, -, hb, -⟩
  have hb' := below_next (Below.refl W2.heap.size W2) (Nat.le_refl _) hb
  have B3 := B2.trans ((HBa.out.trans (hb'.mono (by omega))).mono Z2)
  have HS3 := Lib.hid (((HS2.out.below HBa.out (Nat.le_refl _)).below hb' (by omega)).more (by have := hb'.size; omega : w2.heap.size ≤ w3.heap.size))
  have HA3 := Lib.hid ((HA2.out.up HBa.out (Nat.le_refl _)).up hb' (Nat.le_refl _))
  have HR3 := Lib.hid ((hb'.block w2.heap.size (by omega)).trans HRa.out)
  have Z3 := B3.size
  have HL3 : Hid (w2.heap.size < w3.heap.size) := Lib.hid (by have := hb'.size; omega)
  clear hb hb' HS2 HA2 hz HBa HRa HZa B1 Z1
  simp only [Option.getD_none, zeroR] at *
  go_wp2_with fail
  refine (LowSame_any _ _ 8 _ 8 8 [1, 3, 0, 0, 0, 10, 197, 205] [1, 3, 0, 0, 0, 10, 197, 205] _ _ _ ((HS3.out.alloc (Nat.le_refl _) _).alloc (by simp) _) (Sl.new_at _ _ _ _ [1, 3, 0, 0, 0, 10, 197, 205] 8 rfl rfl (by omega) _ (by simp))).mono ?_
  rw [show decide (([1, 3, 0, 0, 0, 10, 197, 205] : List UInt8) = [1, 3, 0, 0, 0, 10, 197, 205]) = true by simp]
  intro e w5 h
  have hb5 := (below_two w3 _ _).trans (h.below.mono (by simp; omega))
  obtain ⟨rfl, -⟩ := h
  have hr5 := (hb5.block w2.heap.size HL3.out).trans HR3.out
  have hc := fun i => cell_of_row _ _ i _ _ _ hr5
  have HA5 := Lib.hid (HA3.out.up hb5 (Nat.le_refl _))
  have B5 := B3.trans (hb5.mono Z3)
  clear hb5 hr5 HR3 HS3 B3 HA3 B2 Z2
  go_wp2_with fail
  refine (RSame_at _ _ ⟨3, 2, [], [], 0, 0⟩ ⟨3, 2, [], [], 0, 0⟩ aw cw ab cb none 0 none 0 _ rfl rfl HA5.out ⟨Sl.none_, Sl.none_⟩).mono ?_
  rw [show decide ((⟨3, 2, [], [], 0, 0⟩ : Rep) = ⟨3, 2, [], [], 0, 0⟩) = true by decide]
  rintro e w6 ⟨rfl, hb⟩
  have B6 := B5.trans (hb.mono B5.size)
  clear hb hc
  go_wp2_with fail
  go_ret
  exact Says.mk B6
end Go.Proofs.Ytenfcpdoingdeaa.RtuW
