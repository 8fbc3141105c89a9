/- The document's own answer on bits: read, and packed again. -/
import Derived.Test.YtmcclopkmoomeaaWdRefBits
open Go.RowKit
namespace Go.Proofs.Ytmcclopkmoomeaa.WdW
open AskM WdM Mem

theorem take_same8 {l m : List UInt8} {j : Nat} {x : UInt8} (h : l.take j = m.take j) (hx : l[j]? = some x) (hy : m[j]? = some x) : l.take (j + 1) = m.take (j + 1) := by
  rw [List.take_add_one, List.take_add_one, h, hx, hy]
theorem b8_ne {x y : UInt8} (h : x ≠ y) : ((x.toNat : Int) != (y.toNat : Int)) = true := by
  rw [bne_iff_ne]
  intro e
  exact h (UInt8.toNat_inj.1 (by omega))
theorem byte_b8 (x y : UInt8) : ((x.toNat : Int) != (y.toNat : Int)) = decide (x ≠ y) := by
  by_cases h : x = y
  · subst h; simp
  · rw [b8_ne h]; simp [h]
set_option maxRecDepth 100000 in
set_option maxHeartbeats 2000000 in
theorem rBits_any (a : Option Addr) (m c : Nat) (l : List UInt8) (n : Int) (w : World) (hS : Sl b8 w w.heap.size a m c l) (hm : m ≤ 10000) (h1 : -9223372036854775808 ≤ n) (h2 : n ≤ 9223372036854775807) :
    Calls Try.prog 12 #[.slice a m c, .int .i64 n] w (Fresh Value.bool (bitsN l n) w) := by
  have hlen := hS.len
  by_cases hneg : n < 0
  · have hf : ¬ FitB l n := fun h => by have := h.1; omega
    have HR := Lib.hid (bitsN_no hf)
    have t1 : decide (n < 0) = true := by simp; omega
    rw [HR.out]
    clear hS hf hlen
    go_enter Try.func12, Try.ntmps12
    go_wp2_with fail
    go_ret
    exact fresh_none w
  obtain ⟨n, rfl⟩ : ∃ k : Nat, n = (k : Int) := ⟨n.toNat, by omega⟩
  have t1 : decide ((n : Int) < 0) = false := by simp
  by_cases hbig : 8 * m < n
  · have hf : ¬ FitB l (n : Int) := fun h => by have := h.2.1; simp at this; omega
    have HR := Lib.hid (bitsN_no hf)
    have t2 : decide (8 * (m : Int) < (n : Int)) = true := by simp; omega
    rw [HR.out]
    clear hS hf hlen hneg
    go_enter Try.func12, Try.ntmps12
    go_wp2_with fail
    go_ret
    exact fresh_none w
  have t2 : decide (8 * (m : Int) < (n : Int)) = false := by simp; omega
  have hn8 : n ≤ 8 * m := by omega
  obtain ⟨i0, hi0, hz0, hz1, hz2⟩ := info_parts infoB
  have hz2' : i0.bytes = 1 := hz2
  have HX := Lib.hid (And.intro hi0 (And.intro hz0 (And.intro hz1 hz2')))
  have HS := Lib.hid hS
  have HL := Lib.hid hlen
  clear hi0 hz0 hz1 hz2 hz2' hS hlen hbig hneg
  go_enter Try.func12, Try.ntmps12
  go_wp2_with fail
  go_loopw [5, 6] (fun v i wr => ∃ k : Nat, k ≤ n ∧ i = .int .i64 (k : Int) ∧ wr.ownsRow w.heap.size 4 1 v k (((unpackN l).take k).map Value.bool) ∧ Below w.heap.size w wr) (fun _ i _ => n - (intOf i).toNat)
  case atStart => exact ⟨0, by omega, rfl, World.ownsRow_nil _ _ _ _, Below.refl _ _⟩
  case round =>
    obtain ⟨k, hk, rfl, ho, hb⟩ := hrel
    have HO := Lib.hid ho
    have HB := Lib.hid hb
    clear ho hb
    by_cases hlt : k < n
    · have tb : decide ((k : Int) < (n : Int)) = true := by simp; omega
      have HT := Lib.hid (bits_snoc (b := l) (k := k) (by rw [HL.out]; omega))
      go_wp2_with fail
      refine (bit_any _ _ _ _ k w.heap.size wr (HS.out.below HB.out (Nat.le_refl _)) (by omega) (by omega)).mono ?_
      rintro e w1 ⟨rfl, rfl⟩
      generalize (unpackN l).getD k false = x at *
      go_wp2_with (at_builtin; refine wpList_append_vals rfl (.tmp 23) (.tmp 27) 23 rfl w.heap.size 4 i0 (.bool false) 1 Try.underlying23 HX.out.1 HX.out.2.1 HX.out.2.2.1 HX.out.2.2.2 rfl u5 k _ rfl (HO.out.alloc _) ⟨wr.heap.size, 0, none⟩ 1 1 [.bool x] rfl rfl (new_cells wr #[.bool x] _) (fun u hu => by simp at hu; subst hu; rfl) (by unfold maxLen; omega) (by omega) (by have := HB.out.size; simp; omega) ?_; intro v1 w1 hown1 hg1; have HO1 := Lib.hid hown1; have HB1 := Lib.hid (Grew.below (HB.out.alloc HB.out.size _) hg1 (by have := HB.out.size; simp; omega) (fun z hz => (HO.out.lt z hz).1)); clear hown1 hg1)
      go_roundw
      case rel =>
        refine ⟨k + 1, by omega, by go_num, ?_, HB1.out⟩
        have h := HO1.out
        rw [HT.out, List.map_append]
        exact h
      case measure => simp [intOf] <;> omega
    · obtain rfl : k = n := by omega
      have tb : decide ((k : Int) < (k : Int)) = false := by simp
      obtain ⟨a5, c5, rfl, hs5⟩ := Sl.of_own HO.out
      have HS5 := Lib.hid hs5
      have hx5 := fun y (hy : a5 = some y) => (HO.out.lt y.block (by rw [hy]; rfl)).1
      have HX5 := Lib.hid hx5
      clear hs5 hx5 HO
      go_wp2_with fail
      refine (rPackBits_any _ _ _ _ _ HS5.out (by omega)).mono ?_
      rintro e w2 ⟨a6, c6, rfl, hs6, hb6, -⟩
      have HB6 := Lib.hid (HB.out.trans (hb6.mono HB.out.size))
      have HS6 := Lib.hid hs6
      have HS7 := Lib.hid (HS5.out.on hb6)
      have HSL := Lib.hid ((HS.out.below HB6.out (Nat.le_refl _)))
      have hpl : (packN ((unpackN l).take k)).length = (k + 7) / 8 := by rw [length_packN, length_take _ (by rw [HL.out]; omega)]
      rw [hpl] at HS6 ⊢
      clear hs6 hb6 HS5 HB hpl
      by_cases hl : (k + 7) / 8 = m
      case neg =>
        have t3 : ((((k + 7) / 8 : Nat) : Int) != (m : Int)) = true := by rw [bne_iff_ne]; omega
        have hf : ¬ FitB l (k : Int) := fun h => by have := h.2.1; simp [HL.out] at this; omega
        have HR := Lib.hid (bitsN_no hf)
        generalize (k + 7) / 8 = q at *
        clear hf hl
        go_wp2_with fail
        go_ret
        rw [HR.out]
        exact ⟨none, 0, rfl, Sl.none_, HB6.out, fun _ h => by cases h⟩
      rw [hl] at HS6 ⊢
      have t3 : ((m : Int) != (m : Int)) = false := by simp
      go_wp2_with fail
      go_loopw [8] (fun i wr => ∃ j : Nat, j ≤ m ∧ i = .int .i64 (j : Int) ∧ Hid (l.take j = (packN ((unpackN l).take k)).take j) ∧ Hid (∃ q, wr = w2.drewN q)) (fun i _ => m - (intOf i).toNat)
      case atStart => exact ⟨0, by omega, rfl, Lib.hid rfl, ⟨0, rfl⟩⟩
      case round =>
        obtain ⟨j, hj, rfl, HT, HW⟩ := hrel
        obtain ⟨q, rfl⟩ := HW.out
        by_cases hlt2 : j < m
        · obtain ⟨b1, o1, x, rfl, _, hx, hcx⟩ := HSL.out.at_ hlt2
          obtain ⟨b2, o2, y, rfl, _, hy, hcy⟩ := HS6.out.at_ hlt2
          have tj : decide ((j : Int) < (m : Int)) = true := by simp; omega
          have j1 : (0 : Int) ≤ (j : Int) := by omega
          have j2 : (j : Int) < (m : Int) := by omega
          by_cases hxy : x = y
          · subst hxy
            have HN := Lib.hid (take_same8 HT.out hx hy)
            have tn : ((x.toNat : Int) != (x.toNat : Int)) = false := by simp
            clear hx hy HW HT
            go_wp2_with fail
            go_quiet (fail)
            go_wp2_with fail
            go_roundw
            case rel => exact ⟨j + 1, by omega, by go_num, HN, Lib.hid ⟨_, rfl⟩⟩
            case measure => simp [intOf] <;> omega
          · have tn := b8_ne hxy
            have hf : ¬ FitB l (k : Int) := fun h => by
              have hp := pack_bits h
              simp only [Int.toNat_natCast] at hp
              rw [hp, hx] at hy
              injection hy with hy
              exact hxy hy
            have HR := Lib.hid (bitsN_no hf)
            clear hx hy HW HT hf hxy
            go_wp2_with fail
            go_quiet (fail)
            go_wp2_with fail
            go_ret
            rw [HR.out]
            exact ⟨none, 0, rfl, Sl.none_, below_drawn (below_drawn HB6.out q) _, fun _ h => by cases h⟩
        · obtain rfl : j = m := by omega
          have tj : decide ((j : Int) < (j : Int)) = false := by simp
          have hpk : packN ((unpackN l).take k) = l := by
            have h := HT.out
            rw [List.take_of_length_le (by rw [HL.out]; exact Nat.le_refl _), List.take_of_length_le (by rw [HS6.out.len]; exact Nat.le_refl _)] at h
            exact h.symm
          have hf : FitB l (k : Int) := fit_of_pack (by omega) (by simp [HL.out]; omega) (by simpa using hpk)
          have HR := Lib.hid (bitsN_yes hf)
          simp only [Int.toNat_natCast] at HR
          clear hpk hf HT HW
          go_wp2_with fail
          go_ret
          rw [HR.out]
          exact Fresh.mk rfl (HS7.out.on (below_drawn (Below.refl _ _) q)) (below_drawn HB6.out q) HX5.out
end Go.Proofs.Ytmcclopkmoomeaa.WdW
