/- What is cut. -/
import Derived.Test.YtiecncnmmecjcaaCrcPut
open Go.RowKit
namespace Go.Proofs.Ytiecncnmmecjcaa.CrcW
open CrcM Mem

/-- The error's number, and the bytes ahead. -/
def cutN (l : List UInt8) : Nat × List UInt8 :=
  if l.length < 2 then (10, [])
  else if l.drop (l.length - 2) = tail2 (sumN (l.take (l.length - 2))) then (0, l.take (l.length - 2))
  else (11, [])
def CutGives (r : Nat × List UInt8) (w : World) (e : Ending) (w' : World) : Prop :=
  ∃ a c, e = .returned (.tuple #[.slice a r.2.length c, .int .i64 (r.1 : Int)]) ∧ Sl b8 w' w'.heap.size a r.2.length c r.2 ∧ Below w.heap.size w w'
/-- The same, and what is cut is in memory of its own. -/
def CutOwn (r : Nat × List UInt8) (w : World) (e : Ending) (w' : World) : Prop :=
  ∃ a c, e = .returned (.tuple #[.slice a r.2.length c, .int .i64 (r.1 : Int)]) ∧ Sl b8 w' w'.heap.size a r.2.length c r.2 ∧ Below w.heap.size w w' ∧ ∀ x : Addr, a = some x → w.heap.size ≤ x.block
theorem CutOwn.none_ (k : Nat) {w w' : World} (h : Below w.heap.size w w') : CutOwn (k, []) w (.returned (.tuple #[.slice none 0 0, .int .i64 (k : Int)])) w' :=
  ⟨none, 0, rfl, Sl.none_, h, fun _ h => by cases h⟩
theorem CutOwn.gives {r : Nat × List UInt8} {w w' : World} {e : Ending} (h : CutOwn r w e w') : CutGives r w e w' := by
  obtain ⟨a, c, h1, h2, h3, _⟩ := h
  exact ⟨a, c, h1, h2, h3⟩
theorem CutGives.none_ (k : Nat) {w w' : World} (h : Below w.heap.size w w') : CutGives (k, []) w (.returned (.tuple #[.slice none 0 0, .int .i64 (k : Int)])) w' :=
  ⟨none, 0, rfl, Sl.none_, h⟩

theorem tail2_eq (x y : UInt8) (s : Nat) (hs : s < 65536) : [x, y] = tail2 s ↔ x.toNat = s % 256 ∧ y.toNat = s / 256 := by
  unfold tail2
  simp only [List.cons.injEq, and_true]
  constructor
  · rintro ⟨rfl, rfl⟩
    simp
    omega
  · rintro ⟨h1, h2⟩
    constructor
    · rw [← h1]; simp
    · rw [← h2]; simp
theorem cutN_two {l : List UInt8} {k : Nat} (hl : l.length = k + 2) {x y : UInt8} (hx : l[k]? = some x) (hy : l[k + 1]? = some y) :
    cutN l = if x.toNat = sumN (l.take k) % 256 ∧ y.toNat = sumN (l.take k) / 256 then (0, l.take k) else (11, []) := by
  unfold cutN
  rw [if_neg (by omega), hl, show k + 2 - 2 = k by omega]
  have h : l.drop k = [x, y] := by
    apply List.ext_getElem?
    intro i
    rw [List.getElem?_drop]
    match i with
    | 0 => rw [Nat.add_zero, hx]; rfl
    | 1 => rw [hy]; rfl
    | i + 2 => rw [List.getElem?_eq_none (by omega)]; rfl
  rw [h]
  by_cases h2 : x.toNat = sumN (l.take k) % 256 ∧ y.toNat = sumN (l.take k) / 256
  · rw [if_pos h2, if_pos ((tail2_eq x y _ (sumN_lt _)).2 h2)]
  · rw [if_neg h2, if_neg (fun h => h2 ((tail2_eq x y _ (sumN_lt _)).1 h))]

theorem Cut_short (a : Option Addr) (n c : Nat) (l : List UInt8) (w : World) (hl : Sl b8 w w.heap.size a n c l) (hn : n < 2) :
    Calls Try.prog 74 #[.slice a n c] w (CutOwn (cutN l) w) := by
  have hc : cutN l = (10, []) := by unfold cutN; rw [if_pos (by rw [hl.len]; exact hn)]
  rw [hc]
  go_enter Try.func74, Try.ntmps74
  go_wp2
  go_ret2
  exact CutOwn.none_ 10 (Below.refl _ _)

set_option maxHeartbeats 1000000 in
set_option maxRecDepth 100000 in
theorem Cut_long (a : Option Addr) (k c : Nat) (l : List UInt8) (w : World) (hl : Sl b8 w w.heap.size a (k + 2) c l) (hn : k ≤ 1000000) :
    Calls Try.prog 74 #[.slice a (k + 2) c] w (CutOwn (cutN l) w) := by
  obtain ⟨i0, hi, hz0, hz1, hz2⟩ := info_parts info8
  have hsz : (Try.prog.info? 5).map (·.size) = some 1 := by rw [hi]; simp [hz1]
  have hkc : k + 2 ≤ c := hl.nle
  have hcm : c ≤ 9223372036854775807 := by have h1 := hl.cle; unfold maxLen at h1; omega
  obtain ⟨b, off, x, rfl, hbl, hx, hcx⟩ := hl.at_ (k := k) (by omega)
  obtain ⟨b', off', y, he, _, hy, hcy⟩ := hl.at_ (k := k + 1) (by omega)
  injection he with he
  injection he with he1 he2
  subst he1 he2
  have hT := hl.take_ (k := k) (by omega)
  have hC := Lib.hid (cutN_two hl.len hx hy)
  clear hx hy
  go_enter Try.func74, Try.ntmps74
  go_wp2_with fail
  refine (Sum_any _ k c _ w hT).mono ?_
  rintro e w1 ⟨rfl, hb1⟩
  have hs := sumN_lt (l.take k)
  have hx1 : w1.cell? ⟨b, off + k, none⟩ = some (b8 x) := (hb1.cell (p := ⟨b, off + k, none⟩) hbl).trans hcx
  have hy1 : w1.cell? ⟨b, off + (k + 1), none⟩ = some (b8 y) := (hb1.cell (p := ⟨b, off + (k + 1), none⟩) hbl).trans hcy
  have hL1 := hl.below hb1 (Nat.le_refl _)
  have hz := hb1.size
  have hB := Lib.hid hb1
  clear hcx hcy hl hT hb1 hbl
  generalize sumN (l.take k) = s at *
  have hh := halves_any (s : Int) (by omega) (by omega)
  by_cases h1 : x.toNat = s % 256
  · by_cases h2 : y.toNat = s / 256
    · have hR := Lib.hid (hC.out.trans (if_pos ⟨h1, h2⟩))
      have e1 : ((x.toNat : Int) == (s : Int) % 256) = true := by simp; omega
      have e2 : ((y.toNat : Int) == (s : Int) / 256) = true := by simp; omega
      have n1 : ((x.toNat : Int) != (s : Int) % 256) = false := by simp; omega
      have n2 : ((y.toNat : Int) != (s : Int) / 256) = false := by simp; omega
      clear h1 h2 hC
      have Hh := Lib.hid hh
      clear hh
      go_wp2_with (first | (go_at_call 83; refine (Hh.out _).mono ?_; rintro e w4 ⟨rfl, rfl⟩) | (at_make; refine wpList_make_row rfl (.tmp 36) (.tmp 36) 27 rfl 5 i0 (.int .u8 0) 1 Try.underlying27 hi hz0 hz1 hz2 rfl .i64 .i64 _ _ k k rfl rfl rfl rfl (by omega) (by omega) (by omega) ?_; intro w2 hr2 hb2 hs2) | (refine wpList_copy_head (f := b8) b8_one rfl (.tmp 38) (.tmp 39) 27 27 rfl 5 Try.underlying27 hsz w1.heap.size k k rfl (some ⟨b, off, none⟩) (k + 2) c rfl (hL1.below hb2 hz) (by omega) hr2.out (Nat.le_refl _) ?_; intro w3 hr3 hb3))
      have hB3 := (hB.out.trans (hb2.mono hz)).trans (hb3.mono hz)
      have hrow := hr3.out
      rw [Nat.sub_self, List.replicate_zero, List.append_nil] at hrow
      have hlen : ((l.take k).map b8).length = k := by rw [List.length_map, List.length_take, hL1.len]; omega
      have hown := own_of_row hrow (n := k) (by omega) (by rw [hlen]; unfold maxLen; omega) (base := 0) (Nat.zero_le _)
      rw [hlen, List.take_of_length_le (by omega)] at hown
      obtain ⟨a', c', hv, hsl⟩ := Sl.of_own hown
      go_ret2
      rw [hR.out]
      injection hv with hv1 hv2 hv3
      subst hv1 hv3
      have hlk : (l.take k).length = k := hsl.len
      exact ⟨_, _, by simp only [hlk]; rfl, by simp only [hlk]; exact hsl, hB3, fun x hx => by injection hx with hx; subst hx; exact hz⟩
    · have hR := Lib.hid (hC.out.trans (if_neg (fun h => h2 h.2)))
      have e1 : ((x.toNat : Int) == (s : Int) % 256) = true := by simp; omega
      have e2 : ((y.toNat : Int) == (s : Int) / 256) = false := by simp; omega
      have n1 : ((x.toNat : Int) != (s : Int) % 256) = false := by simp; omega
      have n2 : ((y.toNat : Int) != (s : Int) / 256) = true := by simp; omega
      clear h1 h2 hC
      have Hh := Lib.hid hh
      clear hh
      go_wp2_with (go_at_call 83; refine (Hh.out _).mono ?_; rintro e w4 ⟨rfl, rfl⟩)
      go_ret2
      rw [hR.out]
      exact CutOwn.none_ 11 hB.out
  · have hR := Lib.hid (hC.out.trans (if_neg (fun h => h1 h.1)))
    have e1 : ((x.toNat : Int) == (s : Int) % 256) = false := by simp; omega
    have n1 : ((x.toNat : Int) != (s : Int) % 256) = true := by simp; omega
    clear h1 hC
    have Hh := Lib.hid hh
    clear hh
    go_wp2_with (go_at_call 83; refine (Hh.out _).mono ?_; rintro e w4 ⟨rfl, rfl⟩)
    go_ret2
    rw [hR.out]
    exact CutOwn.none_ 11 hB.out
theorem Cut_own (a : Option Addr) (n c : Nat) (l : List UInt8) (w : World) (hl : Sl b8 w w.heap.size a n c l) (hn : n ≤ 1000000) :
    Calls Try.prog 74 #[.slice a n c] w (CutOwn (cutN l) w) := by
  by_cases h : n < 2
  · exact Cut_short a n c l w hl h
  · obtain ⟨k, rfl⟩ : ∃ k, n = k + 2 := ⟨n - 2, by omega⟩
    exact Cut_long a k c l w hl (by omega)
theorem Cut_any (a : Option Addr) (n c : Nat) (l : List UInt8) (w : World) (hl : Sl b8 w w.heap.size a n c l) (hn : n ≤ 1000000) :
    Calls Try.prog 74 #[.slice a n c] w (CutGives (cutN l) w) := (Cut_own a n c l w hl hn).mono fun _ _ h => h.gives
end Go.Proofs.Ytiecncnmmecjcaa.CrcW
