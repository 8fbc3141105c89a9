/- The law AskBits, walked. -/
import Derived.Test.YtpjimlajaplhfaaAskAwake
open Go.RowKit
namespace Go.Proofs.Ytpjimlajaplhfaa.AskW
open AskM Mem

theorem cut_bools {w : World} {B n c : Nat} {a : Option Addr} {l : List Bool} (h : Sl Value.bool w B a n c l) {k : Nat} (hk : k ≤ n) (z : Int) (hz : z = (k : Int)) :
    ∃ a1 c1, Sl Value.bool w B a1 (n - k) c1 (l.drop k) ∧ ∀ W : World, (Instr.slice 24 (.slice a n c) (some (.int .i64 z)) none none).run Try.prog W = .ok (.slice a1 (n - k) c1) W := by
  subst hz
  refine ⟨_, _, h.from_ hk, fun W => ?_⟩
  have h1 := h.nle
  have hu := Try.underlying24
  have hi : ∀ W : World, (sizeOf 4).run Try.prog W = .ok 1 W := fun W => by kernel_rfl
  have hb := fun W => run_sliceBound (P := Try.prog) (w := W) .i64 (k : Int) n .sliceB (by omega) (by omega)
  simp only [Int.toNat_natCast] at hb
  simp [Instr.slice, run_underlying hu, Instr.sliceBounds, hb, hi]
theorem Fresh.more_ {α : Type} {f : α → Value} {w w' : World} {a : Option Addr} {n c : Nat} {l : List α} (h : Sl f w w.heap.size a n c l) (hb : Below w.heap.size w w') : Sl f w' w'.heap.size a n c l := (h.below hb (Nat.le_refl _)).more hb.size
theorem rest_off (l : List Bool) {k : Nat} {x : Bool} (h : ((unpackN (packN l)).drop l.length)[k]? = some x) : x = false := by
  rw [unpack_pack, List.drop_left, List.getElem?_replicate] at h
  split at h
  · injection h with h; exact h.symm
  · cases h

set_option maxHeartbeats 2000000 in
theorem AskBits_walk (a : Option Addr) (n c : Nat) (l : List Bool) (b : Option Addr) (m d : Nat) (bs : List UInt8) (w : World) (hS : Sl Value.bool w w.heap.size a n c l) (hB : Sl b8 w w.heap.size b m d bs) :
    Calls Try.prog 7 #[.slice a n c, .slice b m d] w (Says (.bool true) w) := by
  have hn := len_le hS
  have hm := len_le hB
  have HS := Lib.hid hS
  have HB := Lib.hid hB
  have HL := Lib.hid hS.len
  clear hS hB
  by_cases h1 : 2100 < n
  · have h1' : decide (2100 < (n : Int)) = true := by simp; omega
    go_enter Try.func7, Try.ntmps7
    go_wp2_with fail
    refine (awake_any _).mono ?_
    rintro e w1 ⟨rfl, hb⟩
    go_wp2_with fail
    go_ret
    exact Says.mk hb
  have h1' : decide (2100 < (n : Int)) = false := by simp; omega
  by_cases h2 : 300 < m
  · have h2' : decide (300 < (m : Int)) = true := by simp; omega
    go_enter Try.func7, Try.ntmps7
    go_wp2_with fail
    refine (awake_any _).mono ?_
    rintro e w1 ⟨rfl, hb⟩
    go_wp2_with fail
    go_ret
    exact Says.mk hb
  have h2' : decide (300 < (m : Int)) = false := by simp; omega
  have hP := length_packN l
  rw [HL.out] at hP
  have hU := length_unpackN (packN l)
  have h3 : (((packN l).length : Int) != ((n : Int) + 7) / 8) = false := by rw [bne_eq_false_iff_eq]; omega
  have h4 : (((unpackN (packN l)).length : Int) != 8 * ((packN l).length : Int)) = false := by rw [bne_eq_false_iff_eq]; omega
  have hnU : n ≤ (unpackN (packN l)).length := by omega
  have hU2 : (unpackN (packN l)).length ≤ 3000 := by omega
  have hP2 : (packN l).length ≤ 300 := by omega
  clear hP hU
  have HT := Lib.hid (take_unpack_pack l)
  have HR := Lib.hid (fun k x => rest_off l (k := k) (x := x))
  rw [HL.out] at HT HR
  go_enter Try.func7, Try.ntmps7
  go_wp2_with fail
  refine (Pack_any _ _ _ _ _ HS.out (by omega)).mono ?_
  rintro e w1 ⟨a1, c1, rfl, hs1, hb1, -⟩
  have HS1 := Lib.hid hs1
  have HB1 := Lib.hid hb1
  clear hs1 hb1
  generalize packN l = P at *
  go_wp2_with fail
  refine (Unpack_any _ _ _ _ _ HS1.out (by omega)).mono ?_
  rintro e w2 ⟨a2, c2, rfl, hs2, hb2, -⟩
  have HB2 := Lib.hid (HB1.out.trans (hb2.mono HB1.out.size))
  have HS2 := Lib.hid hs2
  have hcap := hs2.nle
  clear hs2 hb2
  generalize unpackN P = U at *
  go_wp2_with fail
  refine (LowBits_any _ _ _ _ _ _ _ _ _ _ _ (HS2.out.take_ hnU) (HS.out.below HB2.out (Nat.le_refl _))).mono ?_
  rw [HT.out]
  intro e w3 h
  rw [show decide (l = l) = true by simp] at h
  have hb3 := h.below
  obtain ⟨rfl, q, rfl⟩ := h
  obtain ⟨a4, c4, hs4, hrun⟩ := cut_bools HS2.out hnU (n : Int) rfl
  have HS4 := Lib.hid hs4
  clear hs4
  go_wp2_with fail
  have HB3 := Lib.hid (below_drawn HB2.out q)
  have HS5 : Hid (Sl Value.bool (w2.drewN q) w2.heap.size a4 (U.length - n) c4 (U.drop n)) := HS4
  clear hb3 hrun
  generalize hr : U.length - n = r at *
  generalize U.drop n = R at *
  have hr3 : r ≤ 3000 := by omega
  clear hr
  generalize w2.drewN q = w3 at *
  go_loop [51] (fun i => ∃ k : Nat, k ≤ r ∧ i = .int .i64 (k : Int)) (fun i => r - (intOf i).toNat)
  case atStart => exact ⟨0, by omega, rfl⟩
  case round =>
    obtain ⟨k, hk, rfl⟩ := hrel
    by_cases hlt : k < r
    · obtain ⟨b5, o5, x, rfl, hbk, hx, hcell⟩ := HS5.out.at_ hlt
      obtain rfl := HR.out k x hx
      have ht : decide ((k : Int) < (r : Int)) = true := by simp; omega
      clear hx
      go_wp2_with fail
      go_round
      case rel => exact ⟨k + 1, by omega, by go_num⟩
      case measure => simp [intOf]; omega
    · obtain rfl : k = r := by omega
      have ht : decide ((k : Int) < (k : Int)) = false := by simp
      have hpu := Lib.hid (pack_unpack bs)
      go_wp2_with fail
      refine (Unpack_any _ _ _ _ _ ((HB.out.below HB3.out (Nat.le_refl _)).more HB3.out.size) (by omega)).mono ?_
      rintro e w4 ⟨a6, c6, rfl, hs6, hb6, -⟩
      have hln := length_unpackN bs
      have hbl := HB.out.len
      have hlu : (unpackN bs).length ≤ 3000 := by omega
      have HB6 := Lib.hid (HB3.out.trans (hb6.mono HB3.out.size))
      have HS6 := Lib.hid hs6
      clear hs6 hb6 hln hbl
      generalize unpackN bs = V at *
      go_wp2_with fail
      refine (Pack_any _ _ _ _ _ HS6.out (by omega)).mono ?_
      rw [hpu.out]
      rintro e w5 ⟨a7, c7, rfl, hs7, hb7, -⟩
      have HB7 := Lib.hid (HB6.out.trans (hb7.mono HB6.out.size))
      have HS7 := Lib.hid hs7
      clear hs7 hb7
      go_wp2_with fail
      refine (LowSame_any _ _ _ _ _ _ _ _ _ _ _ HS7.out (HB.out.below HB7.out (Nat.le_refl _))).mono ?_
      intro e w6 h
      rw [show decide (bs = bs) = true by simp] at h
      have HB8 := Lib.hid (HB7.out.trans (h.below.mono HB7.out.size))
      obtain ⟨rfl, q2, rfl⟩ := h
      go_wp2_with fail
      refine (awake_any _).mono ?_
      rintro e w7 ⟨rfl, hb⟩
      have HB9 := Lib.hid (HB8.out.trans (hb.mono HB8.out.size))
      clear hb
      go_wp2_with fail
      go_ret
      exact Says.mk HB9.out
end Go.Proofs.Ytpjimlajaplhfaa.AskW
