/- Bits of bytes. -/
import Derived.Test.YtmcclopkmoomeaaWdRegs
open Go.RowKit
namespace Go.Proofs.Ytmcclopkmoomeaa.WdW
open AskM WdM Mem

/-- n bits, the first k of which have been told. -/
def bitsTo (b : List UInt8) (n k : Nat) : Array Value := ((List.range n).map fun j => Value.bool (if j < k then (unpackN b).getD j false else false)).toArray
theorem bitsTo_size (b : List UInt8) (n k : Nat) : (bitsTo b n k).size = n := by simp [bitsTo]
theorem bitsTo_zero (b : List UInt8) (n : Nat) : Array.replicate n (Value.bool false) = bitsTo b n 0 := by
  unfold bitsTo
  rw [← List.toArray_replicate]
  congr 1
  refine List.ext_getElem (by simp) fun i h1 h2 => ?_
  simp
theorem bitsTo_at (b : List UInt8) (n : Nat) {k : Nat} (h : k < n) : (bitsTo b n k)[k]? = some (.bool false) := by simp [bitsTo, h]
theorem bitsTo_next (b : List UInt8) (n k : Nat) : (bitsTo b n k).setIfInBounds k (.bool ((unpackN b).getD k false)) = bitsTo b n (k + 1) := by
  apply Array.ext
  · simp [bitsTo_size]
  · intro i h1 h2
    rw [Array.getElem_setIfInBounds (by simpa using h1)]
    by_cases e : k = i
    · subst e
      rw [if_pos rfl]
      simp [bitsTo]
    · rw [if_neg e]
      by_cases h3 : i < k
      · simp [bitsTo, h3, show i < k + 1 by omega]
      · simp [bitsTo, h3, show ¬ i < k + 1 by omega]
theorem bitsTo_done {b : List UInt8} {n : Nat} (h : n ≤ 8 * b.length) : bitsTo b n n = (((unpackN b).take n).map Value.bool).toArray := by
  unfold bitsTo
  congr 1
  refine List.ext_getElem (by simp [length_unpackN]; omega) fun i h1 h2 => ?_
  simp at h1
  have h3 : i < (unpackN b).length := by rw [length_unpackN]; omega
  simp [h1, List.getD, List.getElem?_eq_getElem h3]
theorem bit_val (x : UInt8) (j : Nat) : (bits .and .u8 ((x.toNat : Int) / 2 ^ j) 1 == 1) = bitOf x.toNat j := by
  have h := x.toNat_lt
  have h1 : x.toNat / 2 ^ j ≤ x.toNat := Nat.div_le_self _ _
  have h2 := u8_and_nat (x.toNat / 2 ^ j) 1 (by omega) (by omega)
  have h3 : ((x.toNat : Int) / 2 ^ j) = ((x.toNat / 2 ^ j : Nat) : Int) := by simp
  rw [h3, show (1 : Int) = ((1 : Nat) : Int) from rfl, h2, Nat.and_one_is_mod]
  unfold bitOf
  rw [Bool.eq_iff_iff]
  simp
  omega
theorem unpack_at {b : List UInt8} {k : Nat} {x : UInt8} (h : b[k / 8]? = some x) : (unpackN b).getD k false = bitOf x.toNat (k % 8) := by
  have h1 := getD_unpackN b (k / 8) (k := k % 8) (by omega)
  rw [show 8 * (k / 8) + k % 8 = k by omega, show b.getD (k / 8) 0 = x by simp [List.getD, h]] at h1
  exact h1
theorem fresh_none {α : Type} {f : α → Value} (w : World) : Fresh f [] w (.returned (.slice none 0 0)) w := ⟨none, 0, rfl, Sl.none_, Below.refl _ _, fun _ h => by cases h⟩
theorem shr_ne (x r : Nat) : (((x : Int) / 2 ^ r) != 0) = decide (x / 2 ^ r ≠ 0) := by
  have h3 : ((x : Int) / 2 ^ r) = ((x / 2 ^ r : Nat) : Int) := by simp
  rw [h3, Bool.eq_iff_iff]
  simp only [bne_iff_ne, decide_eq_true_eq]
  omega
set_option maxRecDepth 100000 in
theorem Bits_neg (a : Option Addr) (m c : Nat) (n : Int) (w : World) (_hm : m ≤ 100000) (_h1 : -9223372036854775808 ≤ n) (h2 : n < 0) :
    Calls Try.prog 11 #[.slice a m c, .int .i64 n] w (Tells (.slice none 0 0) w) := by
  have t1 : decide (n < 0) = true := by simp; omega
  go_enter Try.func11, Try.ntmps11
  go_wp2_with fail
  go_ret
  exact Tells.mk rfl
set_option maxRecDepth 100000 in
theorem Bits_any (a : Option Addr) (m c : Nat) (l : List UInt8) (n : Int) (w : World) (hS : Sl b8 w w.heap.size a m c l) (hm : m ≤ 100000) (h1 : -9223372036854775808 ≤ n) (h2 : n ≤ 9223372036854775807) :
    Calls Try.prog 11 #[.slice a m c, .int .i64 n] w (Fresh Value.bool (bitsN l n) w) := by
  have hlen := hS.len
  by_cases hneg : n < 0
  · have hf : ¬ FitB l n := fun h => by have := h.1; omega
    have HR := Lib.hid (bitsN_no hf)
    have t1 : decide (n < 0) = true := by simp; omega
    rw [HR.out]
    clear hS hf hlen
    go_enter Try.func11, Try.ntmps11
    go_wp2_with fail
    go_ret
    exact fresh_none w
  obtain ⟨n, rfl⟩ : ∃ k : Nat, n = (k : Int) := ⟨n.toNat, by omega⟩
  have t1 : decide ((n : Int) < 0) = false := by simp
  have hH := Lib.hid (fun w => holding_any n w (by omega))
  by_cases hl : m = (n + 7) / 8
  case neg =>
    have hf : ¬ FitB l (n : Int) := fun h => by have := h.2.1; simp at this; omega
    have HR := Lib.hid (bitsN_no hf)
    have t2 : ((m : Int) != (((n + 7) / 8 : Nat) : Int)) = true := by rw [bne_iff_ne]; omega
    rw [HR.out]
    generalize (n + 7) / 8 = q at *
    clear hS hf hlen hneg hl
    go_enter Try.func11, Try.ntmps11
    go_wp2_with fail
    refine (hH.out w).mono ?_
    rintro e w0 ⟨rfl, rfl⟩
    go_wp2_with fail
    go_ret
    exact fresh_none w
  have t2 : ((m : Int) != (((n + 7) / 8 : Nat) : Int)) = false := by rw [← hl]; simp
  have hn8 : n ≤ 8 * m := by omega
  have hn7 : 8 * m ≤ n + 7 := by omega
  rw [← hl] at t2 hH
  by_cases hbad : 0 < n % 8 ∧ (l.getD (m - 1) 0).toNat / 2 ^ (n % 8) ≠ 0
  · have hf : ¬ FitB l (n : Int) := fun h => by
      have h3 := h.2.2
      simp only [Int.toNat_natCast, hlen] at h3
      exact hbad.2 (h3 hbad.1)
    have HR := Lib.hid (bitsN_no hf)
    obtain ⟨b, off, x, rfl, hbk, hx, hcell⟩ := hS.at_ (k := m - 1) (by omega)
    have hg : l.getD (m - 1) 0 = x := by simp [List.getD, hx]
    rw [hg] at hbad
    have t3 : decide ((0 : Int) < (n : Int) % 8) = true := by simp; omega
    have t4 : (((x.toNat : Int) / 2 ^ (n % 8)) != 0) = true := by rw [shr_ne]; exact decide_eq_true hbad.2
    have i1 : (0 : Int) ≤ (m : Int) - 1 := by omega
    have i2 : (m : Int) - 1 < (m : Int) := by omega
    have i3 : (n : Int) % 8 < 8 := by omega
    have i4 : (0 : Int) ≤ (n : Int) % 8 := by omega
    have hx8 := x.toNat_lt
    rw [HR.out]
    clear hS hf hlen hneg hl hx hg hbad
    go_enter Try.func11, Try.ntmps11
    go_wp2_with fail
    refine (hH.out w).mono ?_
    rintro e w0 ⟨rfl, rfl⟩
    go_wp2_with fail
    go_ret
    exact fresh_none w
  -- TAIL
  have hf : FitB l (n : Int) := ⟨by omega, by simp; omega, fun h => by
    simp only [Int.toNat_natCast, hlen] at h ⊢
    exact Decidable.byContradiction fun h3 => hbad ⟨h, h3⟩⟩
  have HR := Lib.hid (bitsN_yes hf)
  simp only [Int.toNat_natCast] at HR
  obtain ⟨i0, hi0, hz0, hz1, hz2⟩ := info_parts infoB
  have HX := Lib.hid (And.intro hi0 (And.intro hz0 (And.intro hz1 hz2)))
  have HS := Lib.hid hS
  rw [HR.out]
  clear hi0 hz0 hz1 hz2 hf HR hneg hl
  by_cases hfull : n % 8 = 0
  · have t3 : decide ((0 : Int) < (n : Int) % 8) = false := by simp; omega
    clear hbad hS hfull
    go_enter Try.func11, Try.ntmps11
    go_wp2_with fail
    refine (hH.out w).mono ?_
    rintro e w0 ⟨rfl, rfl⟩
    go_wp2_with (refine wpList_make_row rfl (.tmp 32) (.tmp 32) 23 rfl 4 i0 (.bool false) 1 Try.underlying23 HX.out.1 HX.out.2.1 HX.out.2.2.1 HX.out.2.2.2 rfl .i64 .i64 _ _ n n rfl rfl ?c1 ?c2 (Nat.le_refl _) ?c3 ?c4 ?_)
    case c1 => rfl
    case c2 => rfl
    case c3 => omega
    case c4 => omega
    intro w1 h1 hb1 hs1
    have hr := h1.out
    rw [bitsTo_zero l] at hr
    have H1 := Lib.hid hr
    clear hr h1 hs1 t1 t2 t3 hH
    go_wp2
    go_loopw [35] (fun i wr => ∃ k : Nat, k ≤ n ∧ i = .int .i64 k ∧ Below w.heap.size w wr ∧ wr.heap[w.heap.size]? = some (.cells (bitsTo l n k) 4 (0, 0))) (fun i _ => n - (intOf i).toNat)
    case atStart => exact ⟨0, by omega, rfl, hb1, H1.out⟩
    case round =>
      obtain ⟨k, hk, rfl, hb, hg⟩ := hrel
      clear hb1 H1
      by_cases hlt : k < n
      · have hl := HS.out.below hb (Nat.le_refl _)
        obtain ⟨b, off, x, rfl, hbk, hx, hcell⟩ := hl.at_ (k := k / 8) (by omega)
        have htt : decide ((k : Int) < (n : Int)) = true := by simp; omega
        have i1 : (0 : Int) ≤ (k : Int) := by omega
        have i2 : (k : Int) < (n : Int) := by omega
        have i3 : (k : Int) / 8 < (m : Int) := by omega
        have hcell2 := (cell_of_row _ _ k _ _ _ hg).trans (bitsTo_at l n hlt)
        have hfz := frozen_of_row _ _ k _ _ hg
        have hst := heap_setCell_same _ _ k _ _ (.bool ((unpackN l).getD k false)) hg
        rw [bitsTo_next, unpack_at hx] at hst
        have HG := Lib.hid hst
        have hx8 := x.toNat_lt
        clear hx hl hst hg
        go_wp2
        have he := bit_val x (k % 8)
        rw [he]
        clear he hcell2 hfz
        go_roundw
        case rel => exact ⟨k + 1, by omega, by go_num, hb.setCell (Nat.le_refl _) _, HG.out⟩
        case measure => simp [intOf]; omega
      · obtain rfl : k = n := by omega
        have htt : decide ((k : Int) < (k : Int)) = false := by simp
        have HG := Lib.hid hg
        clear hg
        go_wp2
        go_ret
        have h := HG.out
        rw [bitsTo_done (by omega)] at h
        have hlk : (((unpackN l).take k).map Value.bool).length = k := by rw [List.length_map, length_take _ (by omega)]
        have h2 := own_of_row (w := wr) (g := w.heap.size) (e := 4) (cs := ((unpackN l).take k).map Value.bool) h (n := k) (by omega) (by rw [hlk]; unfold maxLen; omega) (base := w.heap.size) (Nat.le_refl _)
        rw [hlk, List.take_of_length_le (by omega)] at h2
        exact Fresh.of_own h2 (Nat.le_refl _) hb
  · obtain ⟨b, off, x, hab, hbk, hx, hcell0⟩ := hS.at_ (k := m - 1) (by omega)
    have hg : l.getD (m - 1) 0 = x := by simp [List.getD, hx]
    rw [hg] at hbad
    have t3 : decide ((0 : Int) < (n : Int) % 8) = true := by simp; omega
    have t4 : (((x.toNat : Int) / 2 ^ (n % 8)) != 0) = false := by rw [shr_ne]; exact decide_eq_false fun h => hbad ⟨by omega, h⟩
    have i01 : (0 : Int) ≤ (m : Int) - 1 := by omega
    have i02 : (m : Int) - 1 < (m : Int) := by omega
    have i03 : (n : Int) % 8 < 8 := by omega
    have i04 : (0 : Int) ≤ (n : Int) % 8 := by omega
    have hx08 := x.toNat_lt
    clear hbad hS hfull hx hg
    subst hab
    go_enter Try.func11, Try.ntmps11
    go_wp2_with fail
    refine (hH.out w).mono ?_
    rintro e w0 ⟨rfl, rfl⟩
    go_wp2_with (refine wpList_make_row rfl (.tmp 32) (.tmp 32) 23 rfl 4 i0 (.bool false) 1 Try.underlying23 HX.out.1 HX.out.2.1 HX.out.2.2.1 HX.out.2.2.2 rfl .i64 .i64 _ _ n n rfl rfl ?c1 ?c2 (Nat.le_refl _) ?c3 ?c4 ?_)
    case c1 => rfl
    case c2 => rfl
    case c3 => omega
    case c4 => omega
    intro w1 h1 hb1 hs1
    have hr := h1.out
    rw [bitsTo_zero l] at hr
    have H1 := Lib.hid hr
    clear hr h1 hs1 t1 t2 t3 t4 hH hcell0 i01 i02 i03 i04 hx08
    go_wp2
    go_loopw [35] (fun i wr => ∃ k : Nat, k ≤ n ∧ i = .int .i64 k ∧ Below w.heap.size w wr ∧ wr.heap[w.heap.size]? = some (.cells (bitsTo l n k) 4 (0, 0))) (fun i _ => n - (intOf i).toNat)
    case atStart => exact ⟨0, by omega, rfl, hb1, H1.out⟩
    case round =>
      obtain ⟨k, hk, rfl, hb, hg⟩ := hrel
      clear hb1 H1
      by_cases hlt : k < n
      · have hl := HS.out.below hb (Nat.le_refl _)
        obtain ⟨b1, off1, x, hab, hbk, hx, hcell⟩ := hl.at_ (k := k / 8) (by omega)
        injection hab with hab
        injection hab with hab1 hab2
        subst hab1 hab2
        have htt : decide ((k : Int) < (n : Int)) = true := by simp; omega
        have i1 : (0 : Int) ≤ (k : Int) := by omega
        have i2 : (k : Int) < (n : Int) := by omega
        have i3 : (k : Int) / 8 < (m : Int) := by omega
        have hcell2 := (cell_of_row _ _ k _ _ _ hg).trans (bitsTo_at l n hlt)
        have hfz := frozen_of_row _ _ k _ _ hg
        have hst := heap_setCell_same _ _ k _ _ (.bool ((unpackN l).getD k false)) hg
        rw [bitsTo_next, unpack_at hx] at hst
        have HG := Lib.hid hst
        have hx8 := x.toNat_lt
        clear hx hl hst hg
        go_wp2
        have he := bit_val x (k % 8)
        rw [he]
        clear he hcell2 hfz
        go_roundw
        case rel => exact ⟨k + 1, by omega, by go_num, hb.setCell (Nat.le_refl _) _, HG.out⟩
        case measure => simp [intOf]; omega
      · obtain rfl : k = n := by omega
        have htt : decide ((k : Int) < (k : Int)) = false := by simp
        have HG := Lib.hid hg
        clear hg
        go_wp2
        go_ret
        have h := HG.out
        rw [bitsTo_done (by omega)] at h
        have hlk : (((unpackN l).take k).map Value.bool).length = k := by rw [List.length_map, length_take _ (by omega)]
        have h2 := own_of_row (w := wr) (g := w.heap.size) (e := 4) (cs := ((unpackN l).take k).map Value.bool) h (n := k) (by omega) (by rw [hlk]; unfold maxLen; omega) (base := w.heap.size) (Nat.le_refl _)
        rw [hlk, List.take_of_length_le (by omega)] at h2
        exact Fresh.of_own h2 (Nat.le_refl _) hb
end Go.Proofs.Ytmcclopkmoomeaa.WdW
