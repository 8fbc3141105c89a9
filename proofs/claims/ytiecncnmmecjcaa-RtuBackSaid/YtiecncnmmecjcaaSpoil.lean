/- Bits turned in a copy of bytes. -/
import Derived.Test.YtiecncnmmecjcaaRtuA
open Go.RowKit
namespace Go.Proofs.Ytiecncnmmecjcaa.RtuW
open CrcM CrcW RtuM AskW Mem

theorem own_set {w : World} {base g n cap : Nat} {e : TypeId} {l : List UInt8} (h : w.ownsRow base e 1 (.slice (some ⟨g, 0, none⟩) n cap) n (l.map b8)) {i : Nat} (y : UInt8) :
    (w.setCell ⟨g, i, none⟩ (b8 y)).ownsRow base e 1 (.slice (some ⟨g, 0, none⟩) n cap) n ((l.set i y).map b8) := by
  refine ⟨by have := h.1; simpa using this, ?_⟩
  rcases h.2 with ⟨h0, _⟩ | ⟨g', cap', cur, hv, hb, hh, hn, hm, hs, ht⟩
  · cases h0
  · injection hv with e1 e2 e3
    injection e1 with e1
    injection e1 with e1
    subst e1 e3
    refine .inr ⟨g, cap, _, rfl, hb, heap_setCell_same _ _ i _ _ (b8 y) hh, hn, hm, by simpa using hs, ?_⟩
    rw [Nat.mul_one] at ht ⊢
    rw [Array.toList_setIfInBounds, List.take_set, ht, List.map_set]
theorem own_cell {w : World} {base g n cap : Nat} {e : TypeId} {l : List UInt8} (h : w.ownsRow base e 1 (.slice (some ⟨g, 0, none⟩) n cap) n (l.map b8)) {i : Nat} {x : UInt8} (hx : l[i]? = some x) :
    w.cell? ⟨g, i, none⟩ = some (b8 x) ∧ w.frozen? ⟨g, i, none⟩ = false := by
  have h0 := h
  rcases h0.2 with ⟨h0, _⟩ | ⟨g', cap', cur, hv, hb, hh, hn, hm, hs, ht⟩
  · cases h0
  · injection hv with e1 e2 e3
    injection e1 with e1
    injection e1 with e1
    subst e1 e3
    refine ⟨?_, frozen_of_row _ _ i _ _ hh⟩
    rw [cell_of_row _ _ i _ _ _ hh]
    have hl : l.length = n := by have := h.1; simpa using this
    have hi := (List.getElem?_eq_some_iff.1 hx).1
    have h1 : (cur.toList.take n)[i]? = (l.map b8)[i]? := by rw [← ht, Nat.mul_one]
    rw [List.getElem?_take_of_lt (by omega), List.getElem?_map, hx] at h1
    simpa using h1

theorem flip_bit (x : UInt8) (i : Nat) : bits .xor .u8 (x.toNat : Int) (2 ^ (i % 8) % 256) = ((x ^^^ UInt8.ofNat (2 ^ (i % 8))).toNat : Int) := by
  have h8 : i % 8 < 8 := by omega
  have h2 : 2 ^ (i % 8) < 2 ^ 8 := Nat.pow_lt_pow_right (by omega) h8
  have h := u8_xor_nat x.toNat (2 ^ (i % 8)) x.toNat_lt h2
  rw [UInt8.toNat_xor, ofNat_pow h8, ← h]
  congr 1
  have h3 : (2 : Int) ^ (i % 8) = ((2 ^ (i % 8) : Nat) : Int) := by simp
  rw [h3]
  generalize (2 : Nat) ^ (i % 8) = z at *
  omega
theorem flip_set {m : List UInt8} {i : Nat} {x : UInt8} (h : m[i / 8]? = some x) : flipAt m i = m.set (i / 8) (x ^^^ UInt8.ofNat (2 ^ (i % 8))) := by
  unfold flipAt
  apply List.ext_getElem?
  intro k
  rw [List.getElem?_modify, List.getElem?_set]
  by_cases hk : i / 8 = k
  · subst hk
    rw [h, if_pos rfl, if_pos (List.getElem?_eq_some_iff.1 h).1]
    simp
  · rw [if_neg hk]
    simp [hk]
theorem bit_val {p j : Nat} (hp : p < 65536) : bits .and .u16 ((p : Int) / 2 ^ j) 1 = ((p / 2 ^ j % 2 : Nat) : Int) := by
  have h1 := u16_and_nat (p / 2 ^ j) 1 (Nat.lt_of_le_of_lt (Nat.div_le_self _ _) hp) (by omega)
  rw [show p / 2 ^ j &&& 1 = p / 2 ^ j % 2 from Nat.and_two_pow_sub_one_eq_mod _ 1] at h1
  rw [← h1]
  simp
theorem bit_on {p j : Nat} (hp : p < 65536) (h : p.testBit j = true) : (bits .and .u16 ((p : Int) / 2 ^ j) 1 == 1) = true := by
  rw [bit_val hp]
  rw [Nat.testBit_eq_decide_div_mod_eq] at h
  have := of_decide_eq_true h
  rw [this]; rfl
theorem bit_off {p j : Nat} (hp : p < 65536) (h : p.testBit j = false) : (bits .and .u16 ((p : Int) / 2 ^ j) 1 == 1) = false := by
  rw [bit_val hp]
  rw [Nat.testBit_eq_decide_div_mod_eq] at h
  have := of_decide_eq_false h
  rw [show p / 2 ^ j % 2 = 0 by omega]; rfl
set_option maxRecDepth 100000 in
set_option maxHeartbeats 2000000 in
theorem Spoil_own (a : Option Addr) (n c : Nat) (l : List UInt8) (at_ p : Nat) (w : World) (hl : Sl b8 w w.heap.size a n c l) (h0 : 0 < n) (hn : n ≤ 1000000) (hat : at_ ≤ 8000000) (hp : p < 65536) :
    Calls Try.prog 52 #[.slice a n c, .int .i64 (at_ : Int), .int .u16 (p : Int)] w fun e w' => ∃ v, e = .returned (.tuple #[v, .bool (anyK l at_ p 16)]) ∧ w'.ownsRow w.heap.size 5 1 v n ((spoilK l at_ p 16).map b8) ∧ Below w.heap.size w w' := by
  have hlen := hl.len
  obtain ⟨i0, hi, hz0, hz1, hz2⟩ := info_parts info8
  have hz2' : i0.bytes = 1 := hz2
  have HL := Lib.hid hl
  clear hl
  go_enter Try.func52, Try.ntmps52
  go_wp2_with (at_builtin; go_loud (refine wpList_append_sl (f := b8) b8_one rfl (.tmp 12) (.tmp 13) 27 rfl w.heap.size 5 i0 (.int .u8 0) 1 Try.underlying27 hi hz0 hz1 hz2' rfl (.slice (some ⟨w.heap.size, 0, none⟩) 0 0) 0 [] rfl (World.ownsRow_made w #[] 0 (Nat.le_refl _) (by unfold maxLen; omega) rfl) a n c rfl (HL.out.alloc (Nat.le_refl _) _) (by unfold maxLen; omega) (by omega) (by simp) ?_; intro v4 w4 hown4 hgrow4; simp only [Nat.zero_add, List.nil_append] at hown4; obtain ⟨g, cap, hv4, hg1, hg2, hov, hSg⟩ := own_at hown4 (by omega); subst hv4; have HW4 := Lib.hid (((Below.refl w.heap.size w).alloc (Nat.le_refl _) (.cells #[] 5)).grown hgrow4 (by simp) (by simp [Value.ownBlock])); have HO := Lib.hid hown4; clear hown4 hgrow4 hov hSg))
  clear hi hz0 hz1 hz2 hz2'
  go_loopw [9, 10, 11, 15] (fun any _ _ i wr => ∃ j : Nat, j ≤ 16 ∧ i = .int .i64 j ∧ any = .bool (anyK l at_ p j) ∧ wr.ownsRow w.heap.size 5 1 (.slice (some ⟨g, 0, none⟩) n cap) n ((spoilK l at_ p j).map b8) ∧ Below w.heap.size w wr) (fun _ _ _ i _ => 16 - (intOf i).toNat)
  case atStart => exact ⟨0, by omega, rfl, rfl, HO.out, HW4.out⟩
  case round =>
    obtain ⟨j, hj, rfl, rfl, ho, hb⟩ := hrel
    by_cases hlt : j < 16
    · by_cases hbit : p.testBit j = true
      case neg =>
        have tb := bit_off (p := p) (j := j) hp (by simpa using hbit)
        have HA : Hid (anyK l at_ p (j + 1) = anyK l at_ p j ∧ spoilK l at_ p (j + 1) = spoilK l at_ p j) := Lib.hid (by constructor <;> (simp only [anyK, spoilK]; rw [if_neg (fun h => hbit h.1)]))
        have HO1 := Lib.hid ho
        have HB1 := Lib.hid hb
        clear ho hb hbit
        go_wp2_with fail
        go_roundw
        case rel => exact ⟨j + 1, by omega, by go_num, by rw [HA.out.1], by rw [HA.out.2]; exact HO1.out, HB1.out⟩
        case measure => simp [intOf]; omega
      have tb := bit_on (p := p) (j := j) hp hbit
      have tz : decide ((0 : Int) ≤ (at_ : Int) + (j : Int)) = true := by simp; omega
      by_cases hr : at_ + j < 8 * n
      case neg =>
        have td : decide ((at_ : Int) + (j : Int) < 8 * (n : Int)) = false := by simp; omega
        have HA : Hid (anyK l at_ p (j + 1) = anyK l at_ p j ∧ spoilK l at_ p (j + 1) = spoilK l at_ p j) := Lib.hid (by constructor <;> (simp only [anyK, spoilK]; rw [if_neg (fun h => hr (by rw [← hlen]; exact h.2))]))
        have HO1 := Lib.hid ho
        have HB1 := Lib.hid hb
        clear ho hb hbit hr
        go_wp2_with fail
        go_roundw
        case rel => exact ⟨j + 1, by omega, by go_num, by rw [HA.out.1], by rw [HA.out.2]; exact HO1.out, HB1.out⟩
        case measure => simp [intOf]; omega
      have td : decide ((at_ : Int) + (j : Int) < 8 * (n : Int)) = true := by simp; omega
      have HA : Hid (anyK l at_ p (j + 1) = true ∧ spoilK l at_ p (j + 1) = flipAt (spoilK l at_ p j) (at_ + j)) := Lib.hid (by constructor <;> (simp only [anyK, spoilK]; rw [if_pos ⟨hbit, by rw [hlen]; exact hr⟩]))
      have hsl : (spoilK l at_ p j).length = n := (spoilK_length _ _ _ _).trans hlen
      generalize spoilK l at_ p j = m at *
      obtain ⟨i8, h8⟩ : ∃ i8 : Nat, i8 = (at_ + j) / 8 := ⟨_, rfl⟩
      have e8 : ((at_ : Int) + (j : Int)) / 8 = (i8 : Int) := by omega
      obtain ⟨x, hx⟩ : ∃ x, m[i8]? = some x := ⟨_, List.getElem?_eq_getElem (by omega)⟩
      obtain ⟨hcell, hfz⟩ := own_cell ho hx
      have hb1 : (0 : Int) ≤ ((at_ : Int) + (j : Int)) / 8 := by omega
      have hb2 : ((at_ : Int) + (j : Int)) / 8 < (n : Int) := by omega
      rw [h8] at hcell hfz
      have HX := Lib.hid hx
      have H8 := Lib.hid (And.intro h8 hsl)
      have HO1 := Lib.hid ho
      have HB1 := Lib.hid hb
      clear ho hb hbit hr hx h8 e8 hsl
      go_wp2_with fail
      go_region
      rw [flip_bit x (at_ + j)]
      have HO2 := Lib.hid (own_set HO1.out (i := (at_ + j) / 8) (x ^^^ UInt8.ofNat (2 ^ ((at_ + j) % 8))))
      have HF : Hid (flipAt m (at_ + j) = m.set ((at_ + j) / 8) (x ^^^ UInt8.ofNat (2 ^ ((at_ + j) % 8)))) := Lib.hid (flip_set (by rw [← H8.out.1]; exact HX.out))
      have HB2 := Lib.hid ((HB1.out.setCell (p := ⟨g, (at_ + j) / 8, none⟩) hg1 (b8 (x ^^^ UInt8.ofNat (2 ^ ((at_ + j) % 8))))).drew)
      clear hcell hfz hb1 hb2
      go_wp2_with fail
      go_roundw
      case rel => exact ⟨j + 1, by omega, by go_num, by rw [HA.out.1], by rw [HA.out.2, HF.out]; exact HO2.out, HB2.out⟩
      case measure => simp [intOf]; omega
    · obtain rfl : j = 16 := by omega
      have HO1 := Lib.hid ho
      have HB1 := Lib.hid hb
      clear ho hb
      go_wp2_with fail
      go_ret2
      exact ⟨_, rfl, HO1.out, HB1.out⟩
end Go.Proofs.Ytiecncnmmecjcaa.RtuW
