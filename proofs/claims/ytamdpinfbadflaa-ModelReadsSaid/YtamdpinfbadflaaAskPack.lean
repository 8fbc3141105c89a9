/- Pack. -/
import Derived.Test.YtamdpinfbadflaaAskPackM
import Derived.Test.YtamdpinfbadflaaAskPut
import Derived.RegionTactic
open Go.RowKit
namespace Go.Proofs.Ytamdpinfbadflaa.AskW
open AskM Mem

theorem Pack_any (a : Option Addr) (n c : Nat) (l : List Bool) (w : World) (hS : Sl Value.bool w w.heap.size a n c l) (hn : n ≤ 1000000) :
    Calls Try.prog 77 #[.slice a n c] w (Fresh b8 (packN l) w) := by
  obtain ⟨i0, hi0, hz0, hz1, hz2⟩ := info_parts info8
  have HL := Lib.hid hS.len
  have HX := Lib.hid (And.intro hi0 (And.intro hz0 (And.intro hz1 hz2)))
  clear hi0 hz0 hz1 hz2
  go_enter Try.func77, Try.ntmps77
  go_wp2_with (refine wpList_make_row rfl (.tmp 9) (.tmp 9) 51 rfl 5 i0 (.int .u8 0) 1 Try.underlying51 HX.out.1 HX.out.2.1 HX.out.2.2.1 HX.out.2.2.2 rfl .i64 .i64 _ _ ((n + 7) / 8) ((n + 7) / 8) rfl rfl ?c1 ?c2 (Nat.le_refl _) ?c3 ?c4 ?_)
  case c1 => omega
  case c2 => omega
  case c3 => omega
  case c4 => omega
  intro w1 h1 hb1 hs1
  have hr := h1.out
  rw [packTo_zero l] at hr
  have H1 := Lib.hid hr
  clear hr h1 hs1
  go_wp2
  go_loopw [13] (fun i wr => ∃ k : Nat, k ≤ n ∧ i = .int .i64 k ∧ Below w.heap.size w wr ∧ wr.heap[w.heap.size]? = some (.cells (packTo l ((n + 7) / 8) k) 5 (0, 0))) (fun i _ => n - (intOf i).toNat)
  case atStart => exact ⟨0, by omega, rfl, hb1, H1.out⟩
  case round =>
    obtain ⟨k, hk, rfl, hb, hg⟩ := hrel
    clear hb1 H1
    by_cases hlt : k < n
    · have hl := hS.below hb (Nat.le_refl _)
      obtain ⟨b, off, x, rfl, hbk, hx, hcell⟩ := hl.at_ hlt
      have ht : decide ((k : Int) < (n : Int)) = true := by simp; omega
      cases x
      · rw [packTo_off hx] at hg
        have HG := Lib.hid hg
        clear hx hl hS hg
        go_wp2
        go_roundw
        case rel => exact ⟨k + 1, by omega, by go_num, hb, HG.out⟩
        case measure => simp [intOf]; omega
      · have hc8 := byteAt_lt (l.take k) (k / 8)
        have hc := packTo_at l ((n + 7) / 8) k (j := k / 8) (by omega)
        have hcell2 := (cell_of_row _ _ (k / 8) _ _ _ hg).trans hc
        have hfz := frozen_of_row _ _ (k / 8) _ _ hg
        have hst := heap_setCell_same _ _ (k / 8) _ _ (.int .u8 ((byteAt (l.take k) (k / 8) ||| 2 ^ (k % 8) : Nat) : Int)) hg
        rw [packTo_on hx] at hst
        have HG := Lib.hid hst
        clear hx hl hS hst hc hg
        generalize byteAt (l.take k) (k / 8) = B at *
        go_wp2
        go_region
        have he := or_bit' k hc8
        rw [he]
        clear he hcell2 hfz
        go_wp2
        go_roundw
        case rel => exact ⟨k + 1, by omega, by go_num, (hb.setCell (Nat.le_refl _) _).drew, HG.out⟩
        case measure => simp [intOf]; omega
    · obtain rfl : k = n := by omega
      clear hS
      have ht : decide ((k : Int) < (k : Int)) = false := by simp
      have HG := Lib.hid hg
      clear hg
      go_wp2
      go_ret
      have h := HG.out
      rw [← HL.out, packTo_done] at h
      have h2 := own_of_row (w := wr) (g := w.heap.size) (e := 5) (cs := (packN l).map b8) h (n := (k + 7) / 8) (by simp [length_packN, HL.out]) (by simp [length_packN, HL.out]; unfold maxLen; omega) (base := w.heap.size) (Nat.le_refl _)
      have h3 : ((packN l).map b8).length = (k + 7) / 8 := by simp [length_packN, HL.out]
      rw [h3, List.take_of_length_le (by omega)] at h2
      exact Fresh.of_own h2 (Nat.le_refl _) hb
end Go.Proofs.Ytamdpinfbadflaa.AskW
