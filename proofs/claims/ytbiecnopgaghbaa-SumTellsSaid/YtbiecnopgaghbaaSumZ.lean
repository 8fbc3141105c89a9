/- How a register takes in noughts: the array of what its bits become, applied, and made for twice as many. -/
import Derived.Test.YtbiecnopgaghbaaSumA
import Derived.WalkSpells
import Derived.Below
import Derived.RegionTactic
open Go.RowKit
namespace Go.Proofs.Ytbiecnopgaghbaa.SumW
open SumM Mem

/-- The array's cells when the last k are filled, the last one with t. -/
def zTo (t k : Nat) : Array Value := ((List.range 32).map fun j => Value.int .u32 (if 32 ≤ j + k then (shs (31 - j) t : Int) else 0)).toArray
def zRow (t : Nat) : Array Value := zTo t 32
theorem zTo_zero (t : Nat) : zTo t 0 = #[.int .u32 0, .int .u32 0, .int .u32 0, .int .u32 0, .int .u32 0, .int .u32 0, .int .u32 0, .int .u32 0, .int .u32 0, .int .u32 0, .int .u32 0, .int .u32 0, .int .u32 0, .int .u32 0, .int .u32 0, .int .u32 0, .int .u32 0, .int .u32 0, .int .u32 0, .int .u32 0, .int .u32 0, .int .u32 0, .int .u32 0, .int .u32 0, .int .u32 0, .int .u32 0, .int .u32 0, .int .u32 0, .int .u32 0, .int .u32 0, .int .u32 0, .int .u32 0] := by rfl
theorem zTo_size (t k : Nat) : (zTo t k).size = 32 := by simp [zTo]
theorem zTo_at (t k j : Nat) (h : j < 32) : (zTo t k)[j]? = some (.int .u32 (if 32 ≤ j + k then (shs (31 - j) t : Int) else 0)) := by
  simp [zTo, h]
theorem zRow_at (t j : Nat) (h : j < 32) : (zRow t)[j]? = some (.int .u32 (shs (31 - j) t : Int)) := by
  have := zTo_at t 32 j h
  rwa [if_pos (by omega)] at this
theorem zTo_succ (t k j : Nat) (h : k + j = 31) : (zTo t k).setIfInBounds j (.int .u32 (shs k t : Int)) = zTo t (k + 1) := by
  apply Array.ext_getElem?
  intro i
  by_cases hi : i < 32
  · rw [zTo_at _ _ i hi, Array.getElem?_setIfInBounds]
    by_cases e : j = i
    · subst e
      rw [if_pos rfl, if_pos (by rw [zTo_size]; exact hi), if_pos (by omega), show 31 - j = k by omega]
    · rw [if_neg e, zTo_at _ _ i hi]
      by_cases hk : 32 ≤ i + k
      · rw [if_pos hk, if_pos (by omega)]
      · rw [if_neg hk, if_neg (by omega)]
  · rw [Array.getElem?_eq_none (by simp [zTo_size]; omega), Array.getElem?_eq_none (by rw [zTo_size]; omega)]

/-- What holds of the world in making's loop. -/
def ZW (t : Nat) (w wr : World) (k : Nat) : Prop :=
  Below w.heap.size w wr ∧ wr.heap[w.heap.size]? = some (.cells (zTo t 0) 42 (0, 0)) ∧ wr.heap[w.heap.size + 1]? = some (.cells (zTo t k) 42 (0, 0))
theorem ZW.start (t : Nat) (w : World) : ZW t w ((w.alloc (.cells (zTo t 0) 42)).alloc (.cells (zTo t 0) 42)) 0 :=
  ⟨((Below.refl _ _).alloc (Nat.le_refl _) _).alloc (by simp) _, heap_alloc2_old w _ _, heap_alloc2_new w _ _⟩
theorem ZW.store {t : Nat} {w wr : World} {k j : Nat} (h : ZW t w wr k) (hj : k + j = 31) : ZW t w (wr.setCell ⟨w.heap.size + 1, j, none⟩ (.int .u32 (shs k t : Int))) (k + 1) :=
  ⟨h.1.setCell (by simp) _, by rw [heap_setCell_other _ _ _ _ (by simp)]; exact h.2.1, by rw [heap_setCell_same _ _ _ _ _ _ h.2.2, zTo_succ t k j hj]⟩
theorem ZW.cell {t : Nat} {w wr : World} {k j : Nat} (h : ZW t w wr k) (hj : k + j = 31) : wr.cell? ⟨w.heap.size + 1, j, none⟩ = some (.int .u32 0) := by
  rw [cell_of_row _ _ _ _ _ _ h.2.2, zTo_at _ _ _ (by omega), if_neg (by omega)]

set_option maxHeartbeats 1000000 in
set_option maxRecDepth 100000 in
theorem making_nat (t : Nat) (ht : t < 4294967296) (w : World) :
    Calls Try.prog 21 #[.int .u32 (t : Int)] w fun e w' => e = .returned (.agg (zRow t)) ∧ Below w.heap.size w w' := by
  have h0 := ZW.start t w
  rw [zTo_zero] at h0
  have H0 := Lib.hid h0
  clear h0
  go_enter Try.func21, Try.ntmps21
  go_wp2
  go_loopw [0, 5] (fun s c wr => ∃ k : Nat, k ≤ 32 ∧ c = .int .i64 k ∧ s = .int .u32 (shs k t) ∧ ZW t w wr k) (fun _ c _ => 32 - (intOf c).toNat)
  case atStart => exact ⟨0, by omega, rfl, rfl, H0.out⟩
  case round =>
    obtain ⟨k, hk, rfl, rfl, hr⟩ := hrel
    have hs := shs_lt k ht
    by_cases hlt : k < 32
    · clear H0
      obtain ⟨j, hj⟩ : ∃ j, k + j = 31 := ⟨31 - k, by omega⟩
      have hj2 : (31 : Int) - (k : Int) = (j : Int) := by omega
      have hb : decide ((k : Int) < 32) = true := by simp; omega
      have hcell := hr.cell hj
      have hfz := frozen_of_row _ _ j _ _ hr.2.2
      have HST := Lib.hid (hr.store hj)
      have HS := Lib.hid (shs_succ k t)
      have hj3 : j < 32 := by omega
      generalize shs k t = x at *
      go_wp2_with (go_at_call 18; refine (shift_any _ (by omega) (by omega) _).mono ?_; rintro e w' ⟨rfl, rfl⟩)
      go_roundw
      case rel => exact ⟨k + 1, by omega, by go_num, by rw [HS.out], HST.out⟩
      case measure => simp [intOf]; omega
    · obtain rfl : k = 32 := by omega
      go_wp2_with (first | (refine wpList_load_row rfl 42 (.tmp 3) rfl (w.heap.size + 1) rfl 42 (zRow t) (0, 0) _ hr.2.2 Try.underlying42 rfl (by kernel_rfl) ?_) | (refine wpList_store_row rfl 42 (.tmp 2) (.tmp 15) rfl w.heap.size (zRow t) rfl rfl 42 (zTo t 0) hr.2.1 (by kernel_rfl) (by kernel_rfl) (by kernel_rfl) ?_))
      exact bodyPost_ret (results_cell_row rfl _ _ w.heap.size 42 (zRow t) (0, 0) _ rfl (setRow_heap _ _ _ _ _ _ hr.2.1) Try.underlying42 rfl (by kernel_rfl)) rfl ⟨rfl, below_setRow hr.1 (Nat.le_refl _) _⟩
theorem making_any (n : Int) (h0 : 0 ≤ n) (h : n < 4294967296) (w : World) :
    Calls Try.prog 21 #[.int .u32 n] w fun e w' => e = .returned (.agg (zRow n.toNat)) ∧ Below w.heap.size w w' := by
  obtain ⟨t, rfl⟩ := Int.eq_ofNat_of_zero_le h0
  exact making_nat t (by omega) w

theorem bit_val {p j : Nat} (hp : p < 4294967296) : bits .and .u32 ((p : Int) / 2 ^ j) 1 = ((p / 2 ^ j % 2 : Nat) : Int) := by
  have h1 := u32_and_nat (p / 2 ^ j) 1 (Nat.lt_of_le_of_lt (Nat.div_le_self _ _) hp) (by omega)
  rw [show p / 2 ^ j &&& 1 = p / 2 ^ j % 2 from Nat.and_two_pow_sub_one_eq_mod _ 1] at h1
  rw [← h1]
  simp
theorem bit_on {p j : Nat} (hp : p < 4294967296) (h : p.testBit j = true) : bits .and .u32 ((p : Int) / 2 ^ j) 1 = 1 := by
  rw [bit_val hp]
  rw [Nat.testBit_eq_decide_div_mod_eq] at h
  have := of_decide_eq_true h
  rw [this]; rfl
theorem bit_off {p j : Nat} (hp : p < 4294967296) (h : p.testBit j = false) : bits .and .u32 ((p : Int) / 2 ^ j) 1 = 0 := by
  rw [bit_val hp]
  rw [Nat.testBit_eq_decide_div_mod_eq] at h
  have := of_decide_eq_false h
  rw [show p / 2 ^ j % 2 = 0 by omega]; rfl

set_option maxHeartbeats 1000000 in
set_option maxRecDepth 100000 in
theorem apply_nat (g t s : Nat) (ht : t < 4294967296) (hs : s < 4294967296) (w : World) (hg : w.heap[g]? = some (.cells (zRow t) 42 (0, 0))) :
    Calls Try.prog 22 #[.pointer (some ⟨g, 0, none⟩), .int .u32 (s : Int)] w (Says (.int .u32 (app t s 32)) w) := by
  have hgl : g < w.heap.size := lt_of_block hg
  go_enter Try.func22, Try.ntmps22
  go_wp2
  go_loopw [5, 6, 7, 9] (fun o _ _ i wr => ∃ k : Nat, k ≤ 32 ∧ i = .int .i64 k ∧ o = .int .u32 (app t s k) ∧ Below w.heap.size w wr) (fun _ _ _ i _ => 32 - (intOf i).toNat)
  case atStart => exact ⟨0, by omega, rfl, rfl, Below.refl _ _⟩
  case round =>
    obtain ⟨k, hk, rfl, rfl, hbr⟩ := hrel
    have HB := Lib.hid hbr.drew
    have HB0 := Lib.hid hbr
    have ho := app_lt ht s k
    by_cases hlt : k < 32
    · have hcell : wr.cell? ⟨g, k, none⟩ = some (.int .u32 (shs (31 - k) t : Int)) := by
        rw [cell_of_row _ _ _ _ _ _ ((hbr.block g hgl).trans hg)]; exact zRow_at _ _ hlt
      have hx := shs_lt (31 - k) ht
      have HX := Lib.hid (show app t s (k + 1) = app t s k ^^^ (if s.testBit k = true then shs (31 - k) t else 0) from rfl)
      generalize app t s k = O at *
      generalize shs (31 - k) t = x at *
      have i0 : (0 : Int) ≤ (k : Int) := by omega
      have i1 : (k : Int) < 32 := by omega
      by_cases hbit : s.testBit k = true
      · have hv := bit_on hs hbit
        have hu := u32_xor_nat O x ho hx
        have HE : Hid (app t s (k + 1) = O ^^^ x) := Lib.hid (by rw [HX.out, if_pos hbit])
        clear hg HX hbit hbr
        go_wp2_with fail
        go_region
        go_wp2_with fail
        go_roundw
        case rel => exact ⟨k + 1, by omega, by go_num, by rw [HE.out], HB.out⟩
        case measure => simp [intOf]; omega
      · have hv := bit_off hs (by simpa using hbit)
        have hu : bits .xor .u32 (O : Int) 0 = (O : Int) := by
          have := u32_xor_nat O 0 ho (by omega)
          rwa [Nat.xor_zero] at this
        have HE : Hid (app t s (k + 1) = O) := Lib.hid (by rw [HX.out, if_neg hbit, Nat.xor_zero])
        clear hg HX hbit hbr
        go_wp2_with fail
        go_region
        go_wp2_with fail
        go_roundw
        case rel => exact ⟨k + 1, by omega, by go_num, by rw [HE.out], HB.out⟩
        case measure => simp [intOf]; omega
    · obtain rfl : k = 32 := by omega
      clear hbr
      go_wp2
      go_ret
      exact Says.mk HB0.out
theorem apply_any (g t : Nat) (n : Int) (ht : t < 4294967296) (h0 : 0 ≤ n) (h : n < 4294967296) (w : World) (hg : w.heap[g]? = some (.cells (zRow t) 42 (0, 0))) :
    Calls Try.prog 22 #[.pointer (some ⟨g, 0, none⟩), .int .u32 n] w (Says (.int .u32 (app t n.toNat 32)) w) := by
  obtain ⟨s, rfl⟩ := Int.eq_ofNat_of_zero_le h0
  exact apply_nat g t s ht (by omega) w hg

set_option maxHeartbeats 1000000 in
set_option maxRecDepth 100000 in
theorem twice_any (g t : Nat) (ht : t < 4294967296) (w : World) (hg : w.heap[g]? = some (.cells (zRow t) 42 (0, 0))) :
    Calls Try.prog 23 #[.pointer (some ⟨g, 0, none⟩)] w fun e w' => e = .returned (.agg (zRow (app t t 32))) ∧ Below w.heap.size w w' := by
  have hgl : g < w.heap.size := lt_of_block hg
  have hcell : w.cell? ⟨g, 31, none⟩ = some (.int .u32 (t : Int)) := by
    rw [cell_of_row _ _ _ _ _ _ hg]; exact zRow_at _ _ (by omega)
  have hg1 : (w.alloc (.cells (zTo t 0) 42)).heap[g]? = some (.cells (zRow t) 42 (0, 0)) := (Below.heap_alloc _ _ _ hgl).trans hg
  have ha := app_lt ht t 32
  go_enter Try.func23, Try.ntmps23
  go_wp2_with fail
  refine (apply_any g t _ ht (by omega) (by omega) _ hg1).mono ?_
  rintro e w1 ⟨rfl, b1⟩
  go_wp2_with fail
  refine (making_nat _ ha _).mono ?_
  rintro e w2 ⟨rfl, b2⟩
  have h2 : w2.heap[w.heap.size]? = some (.cells (zTo t 0) 42 (0, 0)) := by
    rw [b2.block _ (by have := b1.size; simp at this; omega), b1.block _ (by simp)]
    exact heap_alloc_new w _
  have hb2 : Below w.heap.size w w2 := below_next (Below.refl w.heap.size w) (Nat.le_refl _) (b1.trans (b2.mono b1.size))
  clear b1 b2
  go_wp2_with (first | (refine wpList_store_row rfl 42 (.tmp 2) (.tmp 9) rfl w.heap.size (zRow (app t t 32)) rfl rfl 42 (zTo t 0) h2 (by kernel_rfl) (by kernel_rfl) (by kernel_rfl) ?_))
  exact bodyPost_ret (results_cell_row rfl _ _ w.heap.size 42 (zRow (app t t 32)) (0, 0) _ rfl (setRow_heap _ _ _ _ _ _ h2) Try.underlying42 rfl (by kernel_rfl)) rfl ⟨rfl, below_setRow hb2 (Nat.le_refl _) _⟩

set_option maxHeartbeats 1000000 in
set_option maxRecDepth 100000 in
theorem Zeros_nat (s : Nat) (hs : s < 4294967296) (n : Int) (N : Nat) (hN : N = n.toNat) (h0 : -9223372036854775808 ≤ n) (hn : n ≤ 9223372036854775807) (w : World) :
    Calls Try.prog 15 #[.int .u32 (s : Int), .int .i64 n] w (Says (.int .u32 (shs (8 * N) s)) w) := by
  have HF := Lib.hid (noughts_mod hs N)
  have hmax : (if (0 : Int) < n then n else 0) = (N : Int) := by split <;> omega
  have hN63 : N ≤ 9223372036854775807 := by omega
  have HA : Hid (addN 2147483648 0 = shs (8 * 1) 2147483648) := Lib.hid rfl
  go_enter Try.func15, Try.ntmps15
  go_wp2_with fail
  refine (Add_nat 2147483648 0 (by omega) (by omega) _).mono ?_
  rintro e w1 ⟨rfl, rfl⟩
  rw [HA.out]
  have h8 := shs_lt (s := 2147483648) (8 * 1) (by omega)
  go_wp2_with fail
  refine (making_nat _ h8 _).mono ?_
  rintro e w2 ⟨rfl, b2⟩
  go_wp2_with (refine wpList_store_row rfl 42 (.tmp 5) (.tmp 8) rfl w2.heap.size (zRow (shs (8 * 1) 2147483648)) rfl rfl 42 (zTo 0 0) (heap_alloc_new w2 _) (by kernel_rfl) (by kernel_rfl) (by kernel_rfl) ?_)
  have hm1 : max n 0 = (N : Int) := by omega
  have hm2 : max n 0 % 4294967295 = ((N % 4294967295 : Nat) : Int) := by omega
  rw [hm2, hm1]
  obtain ⟨L, hL⟩ : ∃ L, N % 4294967295 = L := ⟨_, rfl⟩
  have HF2 : Hid (shs (8 * L) s = shs (8 * N) s) := Lib.hid (by rw [← hL]; exact HF.out)
  have hLlt : L < 4294967295 := by omega
  rw [hL]
  have H0 : Hid (Below w.heap.size w ((w2.alloc (.cells (zTo 0 0) 42)).setRow w2.heap.size (zRow (shs 8 2147483648))) ∧ ((w2.alloc (.cells (zTo 0 0) 42)).setRow w2.heap.size (zRow (shs 8 2147483648))).heap[w2.heap.size]? = some (.cells (zRow (shs 8 2147483648)) 42 (0, 0))) :=
    Lib.hid ⟨below_setRow (b2.alloc b2.size _) b2.size _, setRow_heap _ _ _ _ _ _ (heap_alloc_new w2 _)⟩
  have hz2 := b2.size
  clear b2 hm1 hm2 hmax hL HF hN
  rw [zTo_zero] at H0
  generalize hg : w2.heap.size = g at *
  clear hg
  go_loopw [0, 6] (fun t c wr => ∃ m L2 s2 : Nat, L2 < 4294967295 ∧ s2 < 4294967296 ∧ c = .int .u64 (L2 : Int) ∧ t = .int .u32 (s2 : Int) ∧ Hid (shs (8 * (m * L2)) s2 = shs (8 * N) s) ∧ Below w.heap.size w wr ∧ wr.heap[g]? = some (.cells (zRow (shs (8 * m) 2147483648)) 42 (0, 0))) (fun _ c _ => (intOf c).toNat)
  case atStart => exact ⟨1, L, s, by omega, hs, rfl, rfl, Lib.hid (by rw [Nat.one_mul]; exact HF2.out), H0.out.1, H0.out.2⟩
  case round =>
    obtain ⟨m, L2, s2, hl2, hs2, rfl, rfl, HI, hb, hrow⟩ := hrel
    clear H0 HF2
    have ht := shs_lt (s := 2147483648) (8 * m) (by omega)
    have HT : Hid (app (shs (8 * m) 2147483648) (shs (8 * m) 2147483648) 32 = shs (8 * (2 * m)) 2147483648) := Lib.hid (by rw [app_shs _ ht, ← shs_add]; congr 1; omega)
    have HA := Lib.hid (app_shs (8 * m) hs2)
    by_cases h0 : L2 = 0
    · subst h0
      have HR : Hid (s2 = shs (8 * N) s) := Lib.hid (by have h := HI.out; rw [Nat.mul_zero, Nat.mul_zero] at h; exact h)
      have HB := Lib.hid hb
      clear hrow hb
      go_wp2
      go_ret
      rw [← HR.out]
      exact Says.mk HB.out
    · have hc : decide ((0 : Int) < (L2 : Int)) = true := by simp; omega
      rcases Nat.mod_two_eq_zero_or_one L2 with h2 | h2
      · have hm : ((L2 : Int) % 2 == 1) = false := by simp; omega
        have HN := Lib.hid ((round_even (m := m) h2 s2).trans HI.out)
        go_wp2_with fail
        refine (twice_any g _ ht _ hrow).mono ?_
        rintro e w3 ⟨rfl, b3⟩
        rw [HT.out]
        have hgl := lt_of_block hrow
        have h3 : w3.heap[g]? = some (.cells (zRow (shs (8 * m) 2147483648)) 42 (0, 0)) := (b3.block _ hgl).trans hrow
        have H4 : Hid (Below w.heap.size w (w3.setRow g (zRow (shs (8 * (2 * m)) 2147483648))) ∧ (w3.setRow g (zRow (shs (8 * (2 * m)) 2147483648))).heap[g]? = some (.cells (zRow (shs (8 * (2 * m)) 2147483648)) 42 (0, 0))) :=
          Lib.hid ⟨below_setRow (hb.trans (b3.mono hb.size)) hz2 _, setRow_heap _ _ _ _ _ _ h3⟩
        clear hrow hb b3 hgl
        go_wp2_with (refine wpList_store_row rfl 42 (.tmp 5) (.tmp 22) rfl g (zRow (shs (8 * (2 * m)) 2147483648)) rfl rfl 42 (zRow (shs (8 * m) 2147483648)) h3 (by kernel_rfl) (by kernel_rfl) (by kernel_rfl) ?_)
        go_roundw
        case rel => exact ⟨2 * m, L2 / 2, s2, by omega, hs2, by go_num, rfl, HN, H4.out.1, H4.out.2⟩
        case measure => simp [intOf]; omega
      · have hm : ((L2 : Int) % 2 == 1) = true := by simp; omega
        have HN := Lib.hid ((round_odd (m := m) h2 s2).trans HI.out)
        go_wp2_with fail
        refine (apply_any g _ _ ht (by omega) (by omega) _ hrow).mono ?_
        rintro e w3 ⟨rfl, b3⟩
        rw [Int.toNat_natCast, HA.out]
        have hgl := lt_of_block hrow
        have hrow3 : w3.heap[g]? = some (.cells (zRow (shs (8 * m) 2147483648)) 42 (0, 0)) := (b3.block _ hgl).trans hrow
        have hb3 := hb.trans (b3.mono hb.size)
        have hs3 := shs_lt (8 * m) hs2
        clear hrow hb b3 hgl
        generalize shs (8 * m) s2 = s3 at *
        go_wp2_with fail
        refine (twice_any g _ ht _ hrow3).mono ?_
        rintro e w4 ⟨rfl, b4⟩
        rw [HT.out]
        have hgl := lt_of_block hrow3
        have h3 : w4.heap[g]? = some (.cells (zRow (shs (8 * m) 2147483648)) 42 (0, 0)) := (b4.block _ hgl).trans hrow3
        have H4 : Hid (Below w.heap.size w (w4.setRow g (zRow (shs (8 * (2 * m)) 2147483648))) ∧ (w4.setRow g (zRow (shs (8 * (2 * m)) 2147483648))).heap[g]? = some (.cells (zRow (shs (8 * (2 * m)) 2147483648)) 42 (0, 0))) :=
          Lib.hid ⟨below_setRow (hb3.trans (b4.mono hb3.size)) hz2 _, setRow_heap _ _ _ _ _ _ h3⟩
        clear hrow3 hb3 b4 hgl
        go_wp2_with (refine wpList_store_row rfl 42 (.tmp 5) (.tmp 22) rfl g (zRow (shs (8 * (2 * m)) 2147483648)) rfl rfl 42 (zRow (shs (8 * m) 2147483648)) h3 (by kernel_rfl) (by kernel_rfl) (by kernel_rfl) ?_)
        go_roundw
        case rel => exact ⟨2 * m, L2 / 2, s3, by omega, hs3, by go_num, rfl, HN, H4.out.1, H4.out.2⟩
        case measure => simp [intOf]; omega
end Go.Proofs.Ytbiecnopgaghbaa.SumW
