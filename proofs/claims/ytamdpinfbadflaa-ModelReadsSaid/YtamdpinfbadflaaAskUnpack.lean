/- Unpack. -/
import Derived.Test.YtamdpinfbadflaaAskPut
open Go.RowKit
namespace Go.Proofs.Ytamdpinfbadflaa.AskW
open AskM Mem

theorem bits_take {l : List UInt8} {k : Nat} {x : UInt8} (h : l[k]? = some x) : unpackN (l.take (k + 1)) = unpackN (l.take k) ++ bitsOf x := by
  have : l.take (k + 1) = l.take k ++ [x] := by rw [List.take_add_one, h]; rfl
  rw [this, unpackN_append]
  simp [unpackN]
theorem bits_next (x : UInt8) {j : Nat} (hj : j < 8) : (bitsOf x).take (j + 1) = (bitsOf x).take j ++ [bitOf x.toNat j] := by
  rw [List.take_add_one]
  simp [bitsOf, hj]
/-- One more at the end of a row of the call's own: nothing below the call's begin is written. -/
theorem below_append {w wr w1 : World} {v v' : Value} {T : TypeId} {n : Nat} {xs : List Value} {o : Obj} (hb : Below w.heap.size w wr) (ho : wr.ownsRow w.heap.size T 1 v n xs) (hg : Grew (wr.alloc o) v w1 v') : Below w.heap.size w w1 :=
  Grew.below hb hg.alloc hb.size fun k hk => (ho.lt k hk).1

theorem bit_val (x : UInt8) (j : Nat) : (bits .and .u8 ((x.toNat : Int) / 2 ^ j) 1 == 1) = bitOf x.toNat j := by
  have h := x.toNat_lt
  have h1 : x.toNat / 2 ^ j ≤ x.toNat := Nat.div_le_self _ _
  have h2 := u8_and_nat (x.toNat / 2 ^ j) 1 (by omega) (by omega)
  have h3 : ((x.toNat : Int) / 2 ^ j) = ((x.toNat / 2 ^ j : Nat) : Int) := by simp
  rw [h3, show (1 : Int) = ((1 : Nat) : Int) from rfl, h2, Nat.and_one_is_mod]
  unfold bitOf
  rw [Bool.eq_iff_iff]
  simp
  omega
set_option maxHeartbeats 1000000 in
theorem Unpack_any (a : Option Addr) (n c : Nat) (l : List UInt8) (w : World) (hS : Sl b8 w w.heap.size a n c l) (hn : n ≤ 100000) :
    Calls Try.prog 72 #[.slice a n c] w (Fresh Value.bool (unpackN l) w) := by
  obtain ⟨i0, hi0, hz0, hz1, hz2⟩ := info_parts infoB
  have HL := Lib.hid hS.len
  have HX := Lib.hid (And.intro hi0 (And.intro hz0 (And.intro hz1 hz2)))
  clear hi0 hz0 hz1 hz2
  go_enter Try.func72, Try.ntmps72
  go_wp2_with (refine wpList_make_row rfl (.const (.int .i64 0)) (.tmp 9) 25 rfl 4 i0 (.bool false) 1 Try.underlying25 HX.out.1 HX.out.2.1 HX.out.2.2.1 HX.out.2.2.2 rfl .i64 .i64 _ _ 0 (8 * n) rfl rfl ?c1 ?c2 (Nat.zero_le _) ?c3 ?c4 ?_)
  case c1 => omega
  case c2 => omega
  case c3 => omega
  case c4 => omega
  intro w1 h1 hb1 hs1
  have ho := own_of_row (w := w1) (g := w.heap.size) (e := 4) (cs := List.replicate (8 * n) (.bool false)) (by simpa using h1.out) (n := 0) (Nat.zero_le _) (by simp; unfold maxLen; omega) (base := w.heap.size) (Nat.le_refl _)
  simp only [List.length_replicate, List.take_zero] at ho
  have HO := Lib.hid ho
  clear ho h1 hs1
  go_wp2
  go_loopw [3, 13] (fun v i wr => ∃ k : Nat, k ≤ n ∧ i = .int .i64 k ∧ Below w.heap.size w wr ∧ wr.ownsRow w.heap.size 4 1 v (8 * k) ((unpackN (l.take k)).map Value.bool)) (fun _ i _ => n - (intOf i).toNat)
  case atStart => exact ⟨0, by omega, rfl, hb1, HO.out⟩
  case round =>
    obtain ⟨k, hk, rfl, hb, ho⟩ := hrel
    clear hb1 HO
    by_cases hlt : k < n
    · have hl := hS.below hb (Nat.le_refl _)
      obtain ⟨b, off, x, rfl, hbk, hx, hcell⟩ := hl.at_ hlt
      have ht : decide ((k : Int) < (n : Int)) = true := by simp; omega
      have HT := Lib.hid (bits_take hx)
      have HG := Lib.hid ho
      have hx8 := x.toNat_lt
      clear hx hl hS ho
      go_wp2
      obtain ⟨wo, rfl⟩ : ∃ wo : World, wo = wr := ⟨_, rfl⟩
      go_loopw [3, 17] (fun v i wr => ∃ j : Nat, j ≤ 8 ∧ i = .int .i64 j ∧ Below w.heap.size w wr ∧ wr.ownsRow w.heap.size 4 1 v (8 * k + j) ((unpackN (l.take k) ++ (bitsOf x).take j).map Value.bool)) (fun _ i _ => 8 - (intOf i).toNat)
      case atStart => exact ⟨0, by omega, rfl, hb, by simpa using HG.out⟩
      case round =>
        obtain ⟨j, hj, rfl, hb2, ho2⟩ := hrel
        clear hb hcell
        by_cases hl8 : j < 8
        · have HO2 := Lib.hid ho2
          have HT2 := Lib.hid (bits_next x hl8)
          clear ho2
          have ht2 : decide ((j : Int) < 8) = true := by simp; omega
          go_wp2_with (refine wpList_append_vals rfl (.tmp 20) (.tmp 26) 25 rfl w.heap.size 4 i0 (.bool false) 1 Try.underlying25 HX.out.1 HX.out.2.1 HX.out.2.2.1 HX.out.2.2.2 rfl u3 (8 * k + j) _ rfl (HO2.out.alloc _) ⟨wr.heap.size, 0, none⟩ 1 1 [.bool (bits .and .u8 ((x.toNat : Int) / 2 ^ j) 1 == 1)] rfl rfl (new_cells wr #[.bool (bits .and .u8 ((x.toNat : Int) / 2 ^ j) 1 == 1)] _) ?c1 ?c2 ?c3 ?c4 ?_)
          case c1 => intro u hu; simp at hu; subst hu; rfl
          case c2 => unfold maxLen; omega
          case c3 => omega
          case c4 => have := hb2.size; simp; omega
          intro v' w2 hown' hgrow
          have HO3 := Lib.hid hown'
          have hb3 := below_append hb2 HO2.out hgrow
          clear hown' hgrow hb2
          go_wp2
          go_roundw
          case rel =>
            refine ⟨j + 1, by omega, by go_num, hb3, ?_⟩
            have h := HO3.out
            rw [bit_val] at h
            rw [HT2.out]
            simpa [Nat.add_assoc] using h
          case measure => simp [intOf]; omega
        · obtain rfl : j = 8 := by omega
          have HO2 := Lib.hid ho2
          clear ho2 hl8
          go_wp2
          go_roundw
          case rel =>
            refine ⟨k + 1, by omega, by go_num, hb2, ?_⟩
            have h := HO2.out
            rw [List.take_of_length_le (l := bitsOf x) (by rw [length_bitsOf]; exact Nat.le_refl _)] at h
            rw [HT.out]
            exact h
          case measure => simp [intOf]; omega
    · obtain rfl : k = n := by omega
      have ht : decide ((k : Int) < (k : Int)) = false := by simp
      have HO2 := Lib.hid ho
      clear ho hS
      go_wp2
      go_ret
      have h := HO2.out
      rw [List.take_of_length_le (by rw [HL.out]; exact Nat.le_refl _)] at h
      exact Fresh.of_own h (Nat.le_refl _) hb
end Go.Proofs.Ytamdpinfbadflaa.AskW
