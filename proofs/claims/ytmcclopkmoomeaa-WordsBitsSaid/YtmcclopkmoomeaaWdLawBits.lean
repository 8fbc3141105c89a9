/- Each bit stands where it should. -/
import Derived.Test.YtmcclopkmoomeaaWdAwake
import Derived.Test.YtmcclopkmoomeaaWdLawAdd
import Derived.Test.YtmcclopkmoomeaaWdOne
import Derived.Test.YtmcclopkmoomeaaStep
open Go.RowKit
namespace Go.Proofs.Ytmcclopkmoomeaa.WdW
open AskM WdM Mem

theorem row_bools {W : World} {g n : Nat} {T : TypeId} {l : List Bool} (h : W.heap[g]? = some (.cells (l.map Value.bool).toArray T (0, 0))) (hl : l.length = n) (hn : n ≤ 1000000) : Sl Value.bool W W.heap.size (some ⟨g, 0, none⟩) n n l := by
  refine ⟨hl, Nat.le_refl _, by unfold maxLen; omega, (fun h => by cases h), fun _ => ⟨g, 0, rfl, (Array.getElem?_eq_some_iff.1 h).1, fun i x hx => ?_⟩⟩
  rw [Nat.zero_add, cell_of_row _ _ i _ _ _ h, List.getElem?_toArray, List.getElem?_map, hx]
  rfl
set_option maxRecDepth 100000 in
set_option maxHeartbeats 4000000 in
theorem WordsBits_walk (x0 x1 x2 : Nat) (w : World) (b0 : x0 < 256) (b1 : x1 < 256) (b2 : x2 < 256) :
    Calls Try.prog 5 #[.int .u8 (x0 : Int), .int .u8 (x1 : Int), .int .u8 (x2 : Int)] w (fun e W' => e = .returned (.bool true) ∧ Below w.heap.size w W') := by
  have HAW := Lib.hid (fun w => awake_any w)
  obtain ⟨i0, hi, hz0, hz1, hz2⟩ := info_parts info8
  have hz2' : i0.bytes = 1 := hz2
  obtain ⟨j0, hj, hy0, hy1, hy2⟩ := info_parts infoB
  have hy2' : j0.bytes = 1 := hy2
  have HX := Lib.hid (And.intro hi (And.intro hz0 (And.intro hz1 hz2')))
  have HY := Lib.hid (And.intro hj (And.intro hy0 (And.intro hy1 hy2')))
  clear hi hz0 hz1 hz2 hz2' hj hy0 hy1 hy2 hy2'
  go_enter Try.func5, Try.ntmps5
  go_wp2_with (refine wpList_make_row rfl (.tmp 25) (.tmp 25) 23 rfl 4 j0 (.bool false) 1 Try.underlying23 HY.out.1 HY.out.2.1 HY.out.2.2.1 HY.out.2.2.2 rfl .i64 .i64 _ _ (1 + x0 % 200) (1 + x0 % 200) rfl rfl ?c1 ?c2 (Nat.le_refl _) ?c3 ?c4 ?_)
  case c1 => omega
  case c2 => omega
  case c3 => omega
  case c4 => omega
  intro w1 h1 hb1 hs1
  have hn : 1 + x0 % 200 ≤ 200 := by omega
  have hn0 : 1 ≤ 1 + x0 % 200 := by omega
  have hk : x1 % (1 + x0 % 200) < 1 + x0 % 200 := Nat.mod_lt _ (by omega)
  -- TAIL
  have e1 : (1 : Int) + (x0 : Int) % 200 = ((1 + x0 % 200 : Nat) : Int) := by omega
  have e2 : (x1 : Int) % ((1 + x0 % 200 : Nat) : Int) = ((x1 % (1 + x0 % 200) : Nat) : Int) := by simp
  rw [e1, e2]
  clear e1 e2
  generalize 1 + x0 % 200 = n at *
  generalize x1 % n = k at *
  have hr := h1.out
  rw [← List.toArray_replicate] at hr
  have hfz := frozen_of_row _ _ k _ _ hr
  have hcell := cell_of_row _ _ k _ _ _ hr
  rw [List.getElem?_toArray, List.getElem?_replicate_of_lt hk] at hcell
  have hst := heap_setCell_same _ _ k _ _ (.bool true) hr
  rw [one_set] at hst
  have HS := Lib.hid (row_bools hst (length_oneN n k) (by omega))
  have HB1 := Lib.hid (hb1.setCell (p := ⟨w.heap.size, k, none⟩) (Nat.le_refl _) (.bool true))
  have i1 : (0 : Int) ≤ (k : Int) := by omega
  have i2 : (k : Int) < (n : Int) := by omega
  clear hr hst h1 hb1 hs1
  go_wp2_with fail
  clear hfz hcell
  generalize w1.setCell ⟨w.heap.size, k, none⟩ (.bool true) = w2 at *
  refine (PackBits_own _ _ _ _ _ HS.out (by omega)).mono ?_
  rintro e w3 ⟨v3, rfl, ho3, hb3⟩
  have HO3 := Lib.hid ho3
  have HB3 := Lib.hid (HB1.out.trans (hb3.mono HB1.out.size))
  have HZ3 := Lib.hid hb3.size
  obtain ⟨p3, d3, rfl, hs3⟩ := Sl.of_own ho3
  have HS3 := Lib.hid hs3
  have hm : (packN (oneN n k)).length = (n + 7) / 8 := by rw [length_packN, length_oneN]
  rw [hm] at hs3 HO3 HS3 ⊢
  clear ho3 hb3 hs3 HS hm
  have hmn : 8 * ((n + 7) / 8) ≤ n + 7 := by omega
  have hnm : n ≤ 8 * ((n + 7) / 8) := by omega
  have tl : ((((n + 7) / 8 : Nat) : Int) != ((n : Int) + 7) / 8) = false := by simp
  have hone := Lib.hid (fun j (hj : j < (n + 7) / 8) => one_byte (n := n) (k := k) (j := j) hk hj)
  have hfit := Lib.hid (fun t (h : n ≤ t) (ht : t < 8 * ((n + 7) / 8)) => And.intro (more_pack (k := k) h ht) (And.intro (more_no (k := k) h ht) (more_yes (n := n) (k := k) h)))
  go_wp2_with fail
  have em : ((n : Int) + 7) / 8 = (((n + 7) / 8 : Nat) : Int) := by simp
  rw [em]
  clear em tl
  generalize (n + 7) / 8 = m at *
  go_loop [40] (fun i => ∃ j : Nat, j ≤ m ∧ i = .int .i64 (j : Int)) (fun i => m - (intOf i).toNat)
  case atStart => exact ⟨0, by omega, rfl⟩
  case round =>
    obtain ⟨j, hj, rfl⟩ := hrel
    by_cases hlt : j < m
    · have tj : decide ((j : Int) < (m : Int)) = true := by simp; omega
      obtain ⟨b, off, x, rfl, hbk, hx, hcell⟩ := HS3.out.at_ hlt
      rw [hone.out j hlt] at hx
      injection hx with hx
      by_cases hj8 : j = k / 8
      · have tq : ((j : Int) == (k : Int) / 8) = true := by rw [beq_iff_eq]; omega
        have hp : 2 ^ (k % 8) < 256 := Nat.lt_of_le_of_lt (Nat.pow_le_pow_right (by omega) (show k % 8 ≤ 7 by omega)) (by omega)
        rw [if_pos hj8] at hx
        have hxn : x.toNat = 2 ^ (k % 8) := by rw [← hx]; exact ofNat_toNat8 hp
        have tw : ((x.toNat : Int) != (2 : Int) ^ (k % 8) % 256) = false := by
          rw [hxn]
          have : (2 : Int) ^ (k % 8) % 256 = ((2 ^ (k % 8) : Nat) : Int) := by
            have h2 : ((2 : Int) ^ (k % 8)) = ((2 ^ (k % 8) : Nat) : Int) := by simp
            rw [h2]; omega
          rw [this]; simp
        clear hx hxn hj8 hp
        go_wp2_with fail
        go_round
        case rel => exact ⟨j + 1, by omega, by go_num⟩
        case measure => simp [intOf] <;> omega
      · have tq : ((j : Int) == (k : Int) / 8) = false := by rw [beq_eq_false_iff_ne]; omega
        rw [if_neg hj8] at hx
        have tw : ((x.toNat : Int) != 0) = false := by rw [← hx]; rfl
        clear hx hj8
        go_wp2_with fail
        go_round
        case rel => exact ⟨j + 1, by omega, by go_num⟩
        case measure => simp [intOf] <;> omega
    · obtain rfl : j = m := by omega
      have tj : decide ((j : Int) < (j : Int)) = false := by simp
      clear hone tj
      have HOB : Hid (w.heap.size ≤ w2.heap.size) := Lib.hid (HB1.out.size)
      by_cases hfree : n < 8 * j
      · have tf : decide ((0 : Int) < 8 * (j : Int) - (n : Int)) = true := by simp; omega
        have hq0 : (0 : Int) ≤ (x2 : Int) % (8 * (j : Int) - (n : Int)) := Int.emod_nonneg _ (by omega)
        have hq1 : (x2 : Int) % (8 * (j : Int) - (n : Int)) < 8 * (j : Int) - (n : Int) := Int.emod_lt_of_pos _ (by omega)
        go_wp2_with (at_builtin; refine wpList_append_list (f := b8) b8_one rfl (.tmp 63) (.tmp 64) 22 rfl w3.heap.size 5 i0 (.int .u8 0) 1 Try.underlying22 HX.out.1 HX.out.2.1 HX.out.2.2.1 HX.out.2.2.2 rfl (.slice (some ⟨w3.heap.size, 0, none⟩) 0 0) 0 [] rfl (own_none w3 _) p3 j d3 rfl (HS3.out.on (below_al w3 _)) (by unfold maxLen; omega) (by omega) (by simp) ?_; intro v4 w4 hown4 hg4; simp only [Nat.zero_add, List.nil_append] at hown4; obtain ⟨g4, c4, rfl⟩ := own_some hown4 (by omega); have HO4 := Lib.hid hown4; have HB4 := Lib.hid (up_one hg4); clear hown4 hg4)
        have e3 : (n : Int) + (x2 : Int) % (8 * (j : Int) - (n : Int)) = ((n + x2 % (8 * j - n) : Nat) : Int) := by
          have h8 : (8 * (j : Int) - (n : Int)) = ((8 * j - n : Nat) : Int) := by omega
          rw [h8]; simp
        rw [e3]
        clear hq0 hq1
        have ht0 : n ≤ n + x2 % (8 * j - n) := by omega
        have ht8 : n + x2 % (8 * j - n) < 8 * j := by have := Nat.mod_lt x2 (show 0 < 8 * j - n by omega); omega
        clear e3
        generalize n + x2 % (8 * j - n) = t at *
        obtain ⟨HM, HN, HY2⟩ := hfit.out t ht0 ht8
        obtain ⟨x, hx⟩ : ∃ x, (packN (oneN n k))[t / 8]? = some x := ⟨_, List.getElem?_eq_getElem (by rw [length_packN, length_oneN]; omega)⟩
        have hxv : x.toNat = byteAt (oneN n k) (t / 8) := by rw [← getD_packN]; simp [List.getD, hx]
        obtain ⟨hcell, hfz⟩ := own_cell HO4.out hx
        have hx8 := x.toNat_lt
        have hy8 : x.toNat ||| 2 ^ (t % 8) < 256 := Nat.or_lt_two_pow (n := 8) (by omega) (Nat.pow_lt_pow_right (by omega) (by omega))
        have HO5 := own_set HO4.out (i := t / 8) (UInt8.ofNat (byteAt (oneN n k) (t / 8) ||| 2 ^ (t % 8)))
        rw [← HM, ← hxv, show b8 (UInt8.ofNat (x.toNat ||| 2 ^ (t % 8))) = .int .u8 ((x.toNat ||| 2 ^ (t % 8) : Nat) : Int) by rw [b8, ofNat_toNat8 hy8]] at HO5
        have HO5 := Lib.hid HO5
        have HG := Lib.hid (HO4.out.lt g4 rfl).1
        have j1 : (0 : Int) ≤ (t : Int) := by omega
        have j2 : (t : Int) / 8 < (j : Int) := by omega
        have HNo := Lib.hid (And.intro (bitsN_no HN) HY2)
        have HE := Lib.hid (or_bit' t hx8)
        clear hx hxv HM HN HY2 hy8 HO4 hfit
        go_region
        rw [HE.out]
        clear HE hcell hfz
        have HB5 := Lib.hid ((HB4.out.setCell (p := ⟨g4, t / 8, none⟩) HG.out (.int .u8 ((x.toNat ||| 2 ^ (t % 8) : Nat) : Int))).drew)
        have HO6 := Lib.hid (HO5.out.drew)
        clear HB4 HO5 hx8
        obtain ⟨p5, d5, hv5, hs5⟩ := Sl.of_own HO6.out
        injection hv5 with hv51 hv52 hv53
        subst hv51 hv53
        have HS5 := Lib.hid hs5
        clear hs5 hv52 HO6 HG
        generalize (w4.setCell ⟨g4, t / 8, none⟩ (.int .u8 ((x.toNat ||| 2 ^ (t % 8) : Nat) : Int))).drew = w5 at *
        go_wp2_with fail
        refine (Bits_any _ _ _ _ (n : Int) _ HS5.out (by omega) (by omega) (by omega)).mono ?_
        rintro e w6 ⟨p6, d6, rfl, -, hb6, -⟩
        rw [HNo.out.1, show ([] : List Bool).length = 0 from rfl]
        have HB6 := Lib.hid (HB5.out.trans (hb6.mono HB5.out.size))
        have HS6 := Lib.hid (HS5.out.on hb6)
        clear hb6 HB5 HS5
        have tt : (((t + 1 : Nat) : Int) != (t : Int) + 1) = false := by simp
        go_wp2_with fail
        refine (Bits_any _ _ _ _ ((t : Int) + 1) _ HS6.out (by omega) (by omega) (by omega)).mono ?_
        rintro e w7 ⟨p7, d7, rfl, -, hb7, -⟩
        rw [HNo.out.2]
        have HB7 := Lib.hid (HB6.out.trans (hb7.mono HB6.out.size))
        have HOF := Lib.hid (own_below HO3.out HB7.out)
        have HBF := Lib.hid (HB3.out.trans (HB7.out.mono HB3.out.size))
        have HZF := Lib.hid (Nat.le_trans HZ3.out HB7.out.size)
        clear hb7 HB6 HS6 HB7 HNo HO3 HB3 HZ3
        clear HS3
        go_wp2_with (at_builtin; refine wpList_append_vals rfl (.tmp 97) (.tmp 98) 22 rfl w2.heap.size 5 i0 (.int .u8 0) 1 Try.underlying22 HX.out.1 HX.out.2.1 HX.out.2.2.1 HX.out.2.2.2 rfl (.slice p3 j d3) j _ rfl (HOF.out.alloc _) ⟨w7.heap.size, 0, none⟩ 1 1 (([0] : List UInt8).map b8) rfl rfl (new_cells w7 (([0] : List UInt8).map b8).toArray _) (fun u hu => by obtain ⟨y, _, rfl⟩ := List.mem_map.1 hu; rfl) (by unfold maxLen; omega) (by omega) (by have := HZF.out; simp; omega) ?_; intro vF wF hownF hgF; rw [← List.map_append] at hownF; have HBG := Lib.hid (Grew.below (HBF.out.alloc HBF.out.size _) hgF (by have := HBF.out.size; simp; omega) (fun z hz => Nat.le_trans HOB.out (HOF.out.lt z hz).1)); obtain ⟨pF, dF, rfl, hsF⟩ := Sl.of_own hownF; have HSF := Lib.hid hsF; clear hownF hgF hsF)
        refine (Bits_any _ _ _ _ (n : Int) _ HSF.out (by omega) (by omega) (by omega)).mono ?_
        rintro e wG ⟨pG, dG, rfl, -, hbG, -⟩
        rw [one_more_no, show ([] : List Bool).length = 0 from rfl]
        have HBH := Lib.hid (HBG.out.trans (hbG.mono HBG.out.size))
        clear hbG HSF HBG
        go_wp2_with fail
        refine (Bits_neg _ _ _ (-1) _ (by omega) (by omega) (by omega)).mono ?_
        rintro e wH ⟨rfl, rfl⟩
        go_wp2_with fail
        refine (HAW.out _).mono ?_
        rintro e wI ⟨rfl, hbI⟩
        have HBI := Lib.hid (HBH.out.trans (hbI.mono HBH.out.size))
        go_wp2_with fail
        go_ret
        exact ⟨ret_bool rfl, HBI.out⟩
      · have tf : decide ((0 : Int) < 8 * (j : Int) - (n : Int)) = false := by simp; omega
        have HOF := HO3
        have HBF := HB3
        have HZF := HZ3
        clear HS3
        go_wp2_with (at_builtin; refine wpList_append_vals rfl (.tmp 97) (.tmp 98) 22 rfl w2.heap.size 5 i0 (.int .u8 0) 1 Try.underlying22 HX.out.1 HX.out.2.1 HX.out.2.2.1 HX.out.2.2.2 rfl (.slice p3 j d3) j _ rfl (HOF.out.alloc _) ⟨w3.heap.size, 0, none⟩ 1 1 (([0] : List UInt8).map b8) rfl rfl (new_cells w3 (([0] : List UInt8).map b8).toArray _) (fun u hu => by obtain ⟨y, _, rfl⟩ := List.mem_map.1 hu; rfl) (by unfold maxLen; omega) (by omega) (by have := HZF.out; simp; omega) ?_; intro vF wF hownF hgF; rw [← List.map_append] at hownF; have HBG := Lib.hid (Grew.below (HBF.out.alloc HBF.out.size _) hgF (by have := HBF.out.size; simp; omega) (fun z hz => Nat.le_trans HOB.out (HOF.out.lt z hz).1)); obtain ⟨pF, dF, rfl, hsF⟩ := Sl.of_own hownF; have HSF := Lib.hid hsF; clear hownF hgF hsF)
        refine (Bits_any _ _ _ _ (n : Int) _ HSF.out (by omega) (by omega) (by omega)).mono ?_
        rintro e wG ⟨pG, dG, rfl, -, hbG, -⟩
        rw [one_more_no, show ([] : List Bool).length = 0 from rfl]
        have HBH := Lib.hid (HBG.out.trans (hbG.mono HBG.out.size))
        clear hbG HSF HBG
        go_wp2_with fail
        refine (Bits_neg _ _ _ (-1) _ (by omega) (by omega) (by omega)).mono ?_
        rintro e wH ⟨rfl, rfl⟩
        go_wp2_with fail
        refine (HAW.out _).mono ?_
        rintro e wI ⟨rfl, hbI⟩
        have HBI := Lib.hid (HBH.out.trans (hbI.mono HBH.out.size))
        go_wp2_with fail
        go_ret
        exact ⟨ret_bool rfl, HBI.out⟩

end Go.Proofs.Ytmcclopkmoomeaa.WdW
