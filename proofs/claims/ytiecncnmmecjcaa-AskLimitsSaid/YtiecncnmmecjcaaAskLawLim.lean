/- The law AskLimits, walked. -/
import Derived.Test.YtiecncnmmecjcaaAskKit
import Derived.Test.YtiecncnmmecjcaaStill
import Derived.Test.YtiecncnmmecjcaaAskLim
open Go.RowKit
namespace Go.Proofs.Ytiecncnmmecjcaa.AskW
open AskM Mem

/-- Two rows of the law's own, while they are filled. -/
structure LimW (w W : World) (gb gw n : Nat) : Prop where
  below : Below w.heap.size w W
  ne : gb ≠ gw
  hb : w.heap.size ≤ gb
  hw : w.heap.size ≤ gw
  bits : ∃ cs, W.heap[gb]? = some (.cells cs 4 (0, 0)) ∧ cs.size = n
  words : ∃ cs, W.heap[gw]? = some (.cells cs 22 (0, 0)) ∧ cs.size = n
section
variable {w W : World} {gb gw n k : Nat} {u v : Value}
theorem LimW.bit (h : LimW w W gb gw n) (hk : k < n) : (∃ y, W.cell? ⟨gb, k, none⟩ = some y) ∧ W.frozen? ⟨gb, k, none⟩ = false := by
  obtain ⟨cs, hc, hs⟩ := h.bits
  exact ⟨⟨cs[k]'(by omega), (cell_of_row _ _ k _ _ _ hc).trans (Array.getElem?_eq_getElem (by omega))⟩, frozen_of_row _ _ k _ _ hc⟩
theorem LimW.word (h : LimW w W gb gw n) (hk : k < n) : (∃ y, W.cell? ⟨gw, k, none⟩ = some y) ∧ W.frozen? ⟨gw, k, none⟩ = false := by
  obtain ⟨cs, hc, hs⟩ := h.words
  exact ⟨⟨cs[k]'(by omega), (cell_of_row _ _ k _ _ _ hc).trans (Array.getElem?_eq_getElem (by omega))⟩, frozen_of_row _ _ k _ _ hc⟩
theorem LimW.setB (h : LimW w W gb gw n) : LimW w (W.setCell ⟨gb, k, none⟩ v) gb gw n := by
  obtain ⟨cs, hc, hs⟩ := h.bits
  obtain ⟨ds, hd, ht⟩ := h.words
  exact ⟨h.below.setCell (p := ⟨gb, k, none⟩) h.hb _, h.ne, h.hb, h.hw, ⟨_, heap_setCell_same _ _ k _ _ v hc, by simpa using hs⟩, ⟨ds, by rw [heap_setCell_other _ _ _ _ (fun e => h.ne e.symm)]; exact hd, ht⟩⟩
theorem LimW.setW (h : LimW w W gb gw n) : LimW w (W.setCell ⟨gw, k, none⟩ v) gb gw n := by
  obtain ⟨cs, hc, hs⟩ := h.bits
  obtain ⟨ds, hd, ht⟩ := h.words
  exact ⟨h.below.setCell (p := ⟨gw, k, none⟩) h.hw _, h.ne, h.hb, h.hw, ⟨cs, by rw [heap_setCell_other _ _ _ _ (fun e => h.ne e)]; exact hc, hs⟩, ⟨_, heap_setCell_same _ _ k _ _ v hd, by simpa using ht⟩⟩
theorem limAB (w : World) (n : Nat) : LimW w ((w.alloc (.cells (Array.replicate n (.bool false)) 4)).alloc (.cells (Array.replicate n (.int .u16 0)) 22)).drew w.heap.size (w.heap.size + 1) n :=
  ⟨(((Below.refl w.heap.size w).alloc (Nat.le_refl _) _).alloc (by simp) _).drew, by omega, by omega, by omega, ⟨_, (Below.heap_alloc _ _ _ (by simp)).trans (heap_alloc_new w _), by simp⟩, ⟨_, (congrArg (fun i => ((w.alloc (.cells (Array.replicate n (.bool false)) 4)).alloc (.cells (Array.replicate n (.int .u16 0)) 22)).heap[i]?) (by simp)).trans (heap_alloc_new (w.alloc (.cells (Array.replicate n (.bool false)) 4)) _), by simp⟩⟩
theorem limBA (w : World) (n : Nat) : LimW w ((w.alloc (.cells (Array.replicate n (.int .u16 0)) 22)).alloc (.cells (Array.replicate n (.bool false)) 4)).drew (w.heap.size + 1) w.heap.size n :=
  ⟨(((Below.refl w.heap.size w).alloc (Nat.le_refl _) _).alloc (by simp) _).drew, by omega, by omega, by omega, ⟨_, (congrArg (fun i => ((w.alloc (.cells (Array.replicate n (.int .u16 0)) 22)).alloc (.cells (Array.replicate n (.bool false)) 4)).heap[i]?) (by simp)).trans (heap_alloc_new (w.alloc (.cells (Array.replicate n (.int .u16 0)) 22)) _), by simp⟩, ⟨_, (Below.heap_alloc _ _ _ (by simp)).trans (heap_alloc_new w _), by simp⟩⟩
end

-- WALK
theorem Right_at (v : Value) (a : Req) (aw : Option Addr) (cw : Nat) (ab : Option Addr) (cb : Nat) (w : World) (hv : v = askV a aw cw ab cb) (hnw : a.words.length ≤ 1000000) (hnb : a.bits.length ≤ 1000000) {z : Bool} (hz : rightN a = z) :
    Calls Try.prog 15 #[v] w (Says (.bool z) w) := by
  subst hv hz
  exact Right_any a aw cw ab cb w hnw hnb
/-- The cells of the table of eight. -/
def limC (a k t : Int) (gb gw gx : Nat) (n : Nat) : List Value :=
  [.int .u8 1, .int .u16 a, .int .u16 k, .int .u16 0, .slice none 0 0, .slice none 0 0, .int .i64 2000,
   .int .u8 2, .int .u16 a, .int .u16 k, .int .u16 0, .slice none 0 0, .slice none 0 0, .int .i64 2000,
   .int .u8 3, .int .u16 a, .int .u16 k, .int .u16 0, .slice none 0 0, .slice none 0 0, .int .i64 125,
   .int .u8 4, .int .u16 a, .int .u16 k, .int .u16 0, .slice none 0 0, .slice none 0 0, .int .i64 125,
   .int .u8 15, .int .u16 a, .int .u16 k, .int .u16 0, .slice none 0 0, .slice (some ⟨gb, 0, none⟩) n n, .int .i64 1968,
   .int .u8 16, .int .u16 a, .int .u16 k, .int .u16 0, .slice (some ⟨gw, 0, none⟩) n n, .slice none 0 0, .int .i64 123,
   .int .u8 23, .int .u16 a, .int .u16 k, .int .u16 t, .slice (some ⟨gx, 0, none⟩) 1 1, .slice none 0 0, .int .i64 125,
   .int .u8 23, .int .u16 a, .int .u16 1, .int .u16 t, .slice (some ⟨gw, 0, none⟩) n n, .slice none 0 0, .int .i64 121]

set_option maxRecDepth 100000 in
set_option maxHeartbeats 40000000 in
theorem AskLimits_u (A T X : UInt16) (m : Nat) (on : Bool) (w : World) (h3 : m < 65536) :
    Calls Try.prog 4 #[b16 A, b16 T, .int .u16 m, .bool on, b16 X] w (Says (.bool true) w) := by
  obtain ⟨n, hn⟩ : ∃ n, m % 2101 = n := ⟨_, rfl⟩
  have hn' : n ≤ 2100 := by omega
  have hA := A.toNat_lt
  have hT := T.toNat_lt
  have hX := X.toNat_lt
  have hrem : Int.tmod (m : Int) 2101 = (n : Int) := by rw [← hn]; simp [Int.tmod]
  have HR := Lib.hid hrem
  obtain ⟨iB, hB0, hB1, hB2, hB3⟩ := info_parts infoB
  obtain ⟨iW, hW0, hW1, hW2, hW3⟩ := info_parts info16
  have hmB : ∀ W, (Instr.makeSlice 24 (.int .i64 (n : Int)) (.int .i64 (n : Int))).run Try.prog W = .ok (.slice (some ⟨W.heap.size, 0, none⟩) n n) (W.alloc (.cells (List.replicate n (.bool false)).toArray 4)) := fun W => by
    have hr := run_make (P := Try.prog) W 24 4 iB (.bool false) Try.underlying24 hB0 hB1 .i64 .i64 (n : Int) (n : Int) (by omega) (by omega) (by rw [hB3]; omega) (by omega)
    simp only [Int.toNat_natCast, hB2, Nat.mul_one, madeCells_one, Value.cells] at hr
    simpa using hr
  have hmW : ∀ W, (Instr.makeSlice 23 (.int .i64 (n : Int)) (.int .i64 (n : Int))).run Try.prog W = .ok (.slice (some ⟨W.heap.size, 0, none⟩) n n) (W.alloc (.cells (List.replicate n (.int .u16 0)).toArray 22)) := fun W => by
    have hr := run_make (P := Try.prog) W 23 22 iW (.int .u16 0) Try.underlying23 hW0 hW1 .i64 .i64 (n : Int) (n : Int) (by omega) (by omega) (by rw [hW3]; omega) (by omega)
    simp only [Int.toNat_natCast, hW2, Nat.mul_one, madeCells_one, Value.cells] at hr
    simpa using hr
  clear hB0 hB1 hB2 hB3 hW0 hW1 hW2 hW3
  obtain ⟨K, hK0⟩ : ∃ K : UInt16, K.toNat = n := ⟨UInt16.ofNat n, by simp; omega⟩
  have HK : Hid (b16 K = .int .u16 (n : Int)) := Lib.hid (by unfold b16; rw [hK0])
  have HK0 := Lib.hid hK0
  clear hK0
  go_enter Try.func4, Try.ntmps4
  go_wp2_with fail
  go_region
  · clear hmB hmW
    have HL := Lib.hid (limAB w n)
    go_wp2_with fail
    go_loopw [27] (fun i wr => ∃ k : Nat, k ≤ n ∧ i = .int .i64 k ∧ LimW w wr (w.heap.size) (w.heap.size + 1) n) (fun i _ => n - (intOf i).toNat)
    case atStart => exact ⟨0, by omega, rfl, HL.out⟩
    case round =>
      obtain ⟨k, hk, rfl, hlw⟩ := hrel
      by_cases hlt : k < n
      · have ht : decide ((k : Int) < (n : Int)) = true := by simp; omega
        obtain ⟨⟨y1, hc1⟩, hf1⟩ := hlw.bit hlt
        have hl2 := hlw.setB (k := k) (v := .bool on)
        obtain ⟨⟨y2, hc2⟩, hf2⟩ := hl2.word hlt
        have HL3 := Lib.hid (hl2.setW (k := k) (v := b16 X))
        clear hlw hl2
        go_wp2_with fail
        go_roundw
        case rel => exact ⟨k + 1, by omega, by go_num, HL3.out⟩
        case measure => simp [intOf]; omega
      · obtain rfl : k = n := by omega
        have ht : decide ((k : Int) < (k : Int)) = false := by simp
        have HBL := Lib.hid hlw.below
        clear hlw HL
        by_cases h2 : k ≤ 200
        · have tm : (k : Int) ≤ 200 := by omega
          go_wp2_with fail
          obtain ⟨wo, rfl⟩ : ∃ wo : World, wo = wr := ⟨_, rfl⟩
          have HWB := Lib.hid (show Below w.heap.size w ((wo.alloc (.cells #[.int .u16 (X.toNat : Int)] 22)).alloc (.cells (limC (A.toNat : Int) (k : Int) (T.toNat : Int) (w.heap.size) (w.heap.size + 1) wo.heap.size k).toArray 44)) from (HBL.out.alloc HBL.out.size _).alloc (by have := HBL.out.size; simp; omega) _)
          have HCB := Lib.hid (at_one wo (.cells #[.int .u16 (X.toNat : Int)] 22) (.cells (limC (A.toNat : Int) (k : Int) (T.toNat : Int) (w.heap.size) (w.heap.size + 1) wo.heap.size k).toArray 44))
          change Code.wp _ _ _ _ ((wo.alloc (.cells #[.int .u16 (X.toNat : Int)] 22)).alloc (.cells (limC (A.toNat : Int) (k : Int) (T.toNat : Int) (w.heap.size) (w.heap.size + 1) wo.heap.size k).toArray 44))
          generalize (wo.alloc (.cells #[.int .u16 (X.toNat : Int)] 22)).alloc (.cells (limC (A.toNat : Int) (k : Int) (T.toNat : Int) (w.heap.size) (w.heap.size + 1) wo.heap.size k).toArray 44) = WB at *
          have HZB : Hid (wo.heap.size + 1 < WB.heap.size) := Lib.hid (by have h := (Array.getElem?_eq_some_iff.1 HCB.out).1; exact h)
          go_loopw [17, 90] (fun _ i wq => ∃ j : Nat, j ≤ 8 ∧ i = .int .i64 j ∧ Below WB.heap.size WB wq) (fun _ i _ => 8 - (intOf i).toNat)
          case atStart => exact ⟨0, by omega, rfl, Below.refl _ _⟩
          case round =>
            obtain ⟨j, hj, rfl, hq⟩ := hrel
            have HQ := Lib.hid hq
            clear hq
            by_cases hlt : j < 8
            · have hrow := (HQ.out.block _ HZB.out).trans HCB.out
              have HC := fun i => cell_of_row _ _ i _ _ _ hrow
              clear hrow
              match j, hlt with
              | 0, _ =>
                have c0 : wr.cell? ⟨wo.heap.size + 1, 0, none⟩ = some (.int .u8 1) := (HC 0).trans rfl
                have c1 : wr.cell? ⟨wo.heap.size + 1, 1, none⟩ = some (.int .u16 (A.toNat : Int)) := (HC 1).trans rfl
                have c2 : wr.cell? ⟨wo.heap.size + 1, 2, none⟩ = some (.int .u16 (k : Int)) := (HC 2).trans rfl
                have c3 : wr.cell? ⟨wo.heap.size + 1, 3, none⟩ = some (.int .u16 0) := (HC 3).trans rfl
                have c4 : wr.cell? ⟨wo.heap.size + 1, 4, none⟩ = some (.slice none 0 0) := (HC 4).trans rfl
                have c5 : wr.cell? ⟨wo.heap.size + 1, 5, none⟩ = some (.slice none 0 0) := (HC 5).trans rfl
                have c6 : wr.cell? ⟨wo.heap.size + 1, 6, none⟩ = some (.int .i64 2000) := (HC 6).trans rfl
                clear HC
                by_cases g1 : 1 ≤ k
                · have s1 : decide ((1 : Int) ≤ (k : Int)) = true := by simp; omega
                  by_cases g2 : k ≤ 2000
                  · have s2 : decide ((k : Int) ≤ 2000) = true := by simp; omega
                    skip
                    go_wp2_with fail
                    refine (Right_at _ ⟨1, A, K, 0, [], []⟩ none 0 none 0 _ (by simp only [askV, HK.out]; rfl) (by simp; try omega) (by simp; try omega) (z := true) (by rw [(lim_plain (c := 1) (most := 2000) rfl (by omega) A K)]; simp; try (have := HK0.out; omega))).mono ?_
                    rintro e w9 ⟨rfl, hb9⟩
                    have HB9 := Lib.hid (says_on HQ.out hb9)
                    have c17 : w9.cell? ⟨wr.heap.size, 6, none⟩ = some (.int .i64 2000) := (hb9.cell (p := ⟨wr.heap.size, 6, none⟩) (by simp)).trans (World.cell?_alloc_new _ _ _ 6)
                    clear hb9 c0 c1 c2 c3 c4 c5 c6
                    go_wp2_with fail
                    go_roundw
                    case rel => exact ⟨1, by omega, rfl, HB9.out⟩
                    case measure => simp [intOf]
                  · have s2 : decide ((k : Int) ≤ 2000) = false := by simp; omega
                    omega
                · have s1 : decide ((1 : Int) ≤ (k : Int)) = false := by simp; omega
                  skip
                  go_wp2_with fail
                  refine (Right_at _ ⟨1, A, K, 0, [], []⟩ none 0 none 0 _ (by simp only [askV, HK.out]; rfl) (by simp; try omega) (by simp; try omega) (z := false) (by rw [(lim_plain (c := 1) (most := 2000) rfl (by omega) A K)]; simp; try (have := HK0.out; omega))).mono ?_
                  rintro e w9 ⟨rfl, hb9⟩
                  have HB9 := Lib.hid (says_on HQ.out hb9)
                  have c17 : w9.cell? ⟨wr.heap.size, 6, none⟩ = some (.int .i64 2000) := (hb9.cell (p := ⟨wr.heap.size, 6, none⟩) (by simp)).trans (World.cell?_alloc_new _ _ _ 6)
                  clear hb9 c0 c1 c2 c3 c4 c5 c6
                  go_wp2_with fail
                  go_roundw
                  case rel => exact ⟨1, by omega, rfl, HB9.out⟩
                  case measure => simp [intOf]
              | 1, _ =>
                have c0 : wr.cell? ⟨wo.heap.size + 1, 7, none⟩ = some (.int .u8 2) := (HC 7).trans rfl
                have c1 : wr.cell? ⟨wo.heap.size + 1, 8, none⟩ = some (.int .u16 (A.toNat : Int)) := (HC 8).trans rfl
                have c2 : wr.cell? ⟨wo.heap.size + 1, 9, none⟩ = some (.int .u16 (k : Int)) := (HC 9).trans rfl
                have c3 : wr.cell? ⟨wo.heap.size + 1, 10, none⟩ = some (.int .u16 0) := (HC 10).trans rfl
                have c4 : wr.cell? ⟨wo.heap.size + 1, 11, none⟩ = some (.slice none 0 0) := (HC 11).trans rfl
                have c5 : wr.cell? ⟨wo.heap.size + 1, 12, none⟩ = some (.slice none 0 0) := (HC 12).trans rfl
                have c6 : wr.cell? ⟨wo.heap.size + 1, 13, none⟩ = some (.int .i64 2000) := (HC 13).trans rfl
                clear HC
                by_cases g1 : 1 ≤ k
                · have s1 : decide ((1 : Int) ≤ (k : Int)) = true := by simp; omega
                  by_cases g2 : k ≤ 2000
                  · have s2 : decide ((k : Int) ≤ 2000) = true := by simp; omega
                    skip
                    go_wp2_with fail
                    refine (Right_at _ ⟨2, A, K, 0, [], []⟩ none 0 none 0 _ (by simp only [askV, HK.out]; rfl) (by simp; try omega) (by simp; try omega) (z := true) (by rw [(lim_plain (c := 2) (most := 2000) rfl (by omega) A K)]; simp; try (have := HK0.out; omega))).mono ?_
                    rintro e w9 ⟨rfl, hb9⟩
                    have HB9 := Lib.hid (says_on HQ.out hb9)
                    have c17 : w9.cell? ⟨wr.heap.size, 6, none⟩ = some (.int .i64 2000) := (hb9.cell (p := ⟨wr.heap.size, 6, none⟩) (by simp)).trans (World.cell?_alloc_new _ _ _ 6)
                    clear hb9 c0 c1 c2 c3 c4 c5 c6
                    go_wp2_with fail
                    go_roundw
                    case rel => exact ⟨2, by omega, rfl, HB9.out⟩
                    case measure => simp [intOf]
                  · have s2 : decide ((k : Int) ≤ 2000) = false := by simp; omega
                    omega
                · have s1 : decide ((1 : Int) ≤ (k : Int)) = false := by simp; omega
                  skip
                  go_wp2_with fail
                  refine (Right_at _ ⟨2, A, K, 0, [], []⟩ none 0 none 0 _ (by simp only [askV, HK.out]; rfl) (by simp; try omega) (by simp; try omega) (z := false) (by rw [(lim_plain (c := 2) (most := 2000) rfl (by omega) A K)]; simp; try (have := HK0.out; omega))).mono ?_
                  rintro e w9 ⟨rfl, hb9⟩
                  have HB9 := Lib.hid (says_on HQ.out hb9)
                  have c17 : w9.cell? ⟨wr.heap.size, 6, none⟩ = some (.int .i64 2000) := (hb9.cell (p := ⟨wr.heap.size, 6, none⟩) (by simp)).trans (World.cell?_alloc_new _ _ _ 6)
                  clear hb9 c0 c1 c2 c3 c4 c5 c6
                  go_wp2_with fail
                  go_roundw
                  case rel => exact ⟨2, by omega, rfl, HB9.out⟩
                  case measure => simp [intOf]
              | 2, _ =>
                have c0 : wr.cell? ⟨wo.heap.size + 1, 14, none⟩ = some (.int .u8 3) := (HC 14).trans rfl
                have c1 : wr.cell? ⟨wo.heap.size + 1, 15, none⟩ = some (.int .u16 (A.toNat : Int)) := (HC 15).trans rfl
                have c2 : wr.cell? ⟨wo.heap.size + 1, 16, none⟩ = some (.int .u16 (k : Int)) := (HC 16).trans rfl
                have c3 : wr.cell? ⟨wo.heap.size + 1, 17, none⟩ = some (.int .u16 0) := (HC 17).trans rfl
                have c4 : wr.cell? ⟨wo.heap.size + 1, 18, none⟩ = some (.slice none 0 0) := (HC 18).trans rfl
                have c5 : wr.cell? ⟨wo.heap.size + 1, 19, none⟩ = some (.slice none 0 0) := (HC 19).trans rfl
                have c6 : wr.cell? ⟨wo.heap.size + 1, 20, none⟩ = some (.int .i64 125) := (HC 20).trans rfl
                clear HC
                by_cases g1 : 1 ≤ k
                · have s1 : decide ((1 : Int) ≤ (k : Int)) = true := by simp; omega
                  by_cases g2 : k ≤ 125
                  · have s2 : decide ((k : Int) ≤ 125) = true := by simp; omega
                    skip
                    go_wp2_with fail
                    refine (Right_at _ ⟨3, A, K, 0, [], []⟩ none 0 none 0 _ (by simp only [askV, HK.out]; rfl) (by simp; try omega) (by simp; try omega) (z := true) (by rw [(lim_plain (c := 3) (most := 125) rfl (by omega) A K)]; simp; try (have := HK0.out; omega))).mono ?_
                    rintro e w9 ⟨rfl, hb9⟩
                    have HB9 := Lib.hid (says_on HQ.out hb9)
                    have c17 : w9.cell? ⟨wr.heap.size, 6, none⟩ = some (.int .i64 125) := (hb9.cell (p := ⟨wr.heap.size, 6, none⟩) (by simp)).trans (World.cell?_alloc_new _ _ _ 6)
                    clear hb9 c0 c1 c2 c3 c4 c5 c6
                    go_wp2_with fail
                    go_roundw
                    case rel => exact ⟨3, by omega, rfl, HB9.out⟩
                    case measure => simp [intOf]
                  · have s2 : decide ((k : Int) ≤ 125) = false := by simp; omega
                    skip
                    go_wp2_with fail
                    refine (Right_at _ ⟨3, A, K, 0, [], []⟩ none 0 none 0 _ (by simp only [askV, HK.out]; rfl) (by simp; try omega) (by simp; try omega) (z := false) (by rw [(lim_plain (c := 3) (most := 125) rfl (by omega) A K)]; simp; try (have := HK0.out; omega))).mono ?_
                    rintro e w9 ⟨rfl, hb9⟩
                    have HB9 := Lib.hid (says_on HQ.out hb9)
                    have c17 : w9.cell? ⟨wr.heap.size, 6, none⟩ = some (.int .i64 125) := (hb9.cell (p := ⟨wr.heap.size, 6, none⟩) (by simp)).trans (World.cell?_alloc_new _ _ _ 6)
                    clear hb9 c0 c1 c2 c3 c4 c5 c6
                    go_wp2_with fail
                    go_roundw
                    case rel => exact ⟨3, by omega, rfl, HB9.out⟩
                    case measure => simp [intOf]
                · have s1 : decide ((1 : Int) ≤ (k : Int)) = false := by simp; omega
                  skip
                  go_wp2_with fail
                  refine (Right_at _ ⟨3, A, K, 0, [], []⟩ none 0 none 0 _ (by simp only [askV, HK.out]; rfl) (by simp; try omega) (by simp; try omega) (z := false) (by rw [(lim_plain (c := 3) (most := 125) rfl (by omega) A K)]; simp; try (have := HK0.out; omega))).mono ?_
                  rintro e w9 ⟨rfl, hb9⟩
                  have HB9 := Lib.hid (says_on HQ.out hb9)
                  have c17 : w9.cell? ⟨wr.heap.size, 6, none⟩ = some (.int .i64 125) := (hb9.cell (p := ⟨wr.heap.size, 6, none⟩) (by simp)).trans (World.cell?_alloc_new _ _ _ 6)
                  clear hb9 c0 c1 c2 c3 c4 c5 c6
                  go_wp2_with fail
                  go_roundw
                  case rel => exact ⟨3, by omega, rfl, HB9.out⟩
                  case measure => simp [intOf]
              | 3, _ =>
                have c0 : wr.cell? ⟨wo.heap.size + 1, 21, none⟩ = some (.int .u8 4) := (HC 21).trans rfl
                have c1 : wr.cell? ⟨wo.heap.size + 1, 22, none⟩ = some (.int .u16 (A.toNat : Int)) := (HC 22).trans rfl
                have c2 : wr.cell? ⟨wo.heap.size + 1, 23, none⟩ = some (.int .u16 (k : Int)) := (HC 23).trans rfl
                have c3 : wr.cell? ⟨wo.heap.size + 1, 24, none⟩ = some (.int .u16 0) := (HC 24).trans rfl
                have c4 : wr.cell? ⟨wo.heap.size + 1, 25, none⟩ = some (.slice none 0 0) := (HC 25).trans rfl
                have c5 : wr.cell? ⟨wo.heap.size + 1, 26, none⟩ = some (.slice none 0 0) := (HC 26).trans rfl
                have c6 : wr.cell? ⟨wo.heap.size + 1, 27, none⟩ = some (.int .i64 125) := (HC 27).trans rfl
                clear HC
                by_cases g1 : 1 ≤ k
                · have s1 : decide ((1 : Int) ≤ (k : Int)) = true := by simp; omega
                  by_cases g2 : k ≤ 125
                  · have s2 : decide ((k : Int) ≤ 125) = true := by simp; omega
                    skip
                    go_wp2_with fail
                    refine (Right_at _ ⟨4, A, K, 0, [], []⟩ none 0 none 0 _ (by simp only [askV, HK.out]; rfl) (by simp; try omega) (by simp; try omega) (z := true) (by rw [(lim_plain (c := 4) (most := 125) rfl (by omega) A K)]; simp; try (have := HK0.out; omega))).mono ?_
                    rintro e w9 ⟨rfl, hb9⟩
                    have HB9 := Lib.hid (says_on HQ.out hb9)
                    have c17 : w9.cell? ⟨wr.heap.size, 6, none⟩ = some (.int .i64 125) := (hb9.cell (p := ⟨wr.heap.size, 6, none⟩) (by simp)).trans (World.cell?_alloc_new _ _ _ 6)
                    clear hb9 c0 c1 c2 c3 c4 c5 c6
                    go_wp2_with fail
                    go_roundw
                    case rel => exact ⟨4, by omega, rfl, HB9.out⟩
                    case measure => simp [intOf]
                  · have s2 : decide ((k : Int) ≤ 125) = false := by simp; omega
                    skip
                    go_wp2_with fail
                    refine (Right_at _ ⟨4, A, K, 0, [], []⟩ none 0 none 0 _ (by simp only [askV, HK.out]; rfl) (by simp; try omega) (by simp; try omega) (z := false) (by rw [(lim_plain (c := 4) (most := 125) rfl (by omega) A K)]; simp; try (have := HK0.out; omega))).mono ?_
                    rintro e w9 ⟨rfl, hb9⟩
                    have HB9 := Lib.hid (says_on HQ.out hb9)
                    have c17 : w9.cell? ⟨wr.heap.size, 6, none⟩ = some (.int .i64 125) := (hb9.cell (p := ⟨wr.heap.size, 6, none⟩) (by simp)).trans (World.cell?_alloc_new _ _ _ 6)
                    clear hb9 c0 c1 c2 c3 c4 c5 c6
                    go_wp2_with fail
                    go_roundw
                    case rel => exact ⟨4, by omega, rfl, HB9.out⟩
                    case measure => simp [intOf]
                · have s1 : decide ((1 : Int) ≤ (k : Int)) = false := by simp; omega
                  skip
                  go_wp2_with fail
                  refine (Right_at _ ⟨4, A, K, 0, [], []⟩ none 0 none 0 _ (by simp only [askV, HK.out]; rfl) (by simp; try omega) (by simp; try omega) (z := false) (by rw [(lim_plain (c := 4) (most := 125) rfl (by omega) A K)]; simp; try (have := HK0.out; omega))).mono ?_
                  rintro e w9 ⟨rfl, hb9⟩
                  have HB9 := Lib.hid (says_on HQ.out hb9)
                  have c17 : w9.cell? ⟨wr.heap.size, 6, none⟩ = some (.int .i64 125) := (hb9.cell (p := ⟨wr.heap.size, 6, none⟩) (by simp)).trans (World.cell?_alloc_new _ _ _ 6)
                  clear hb9 c0 c1 c2 c3 c4 c5 c6
                  go_wp2_with fail
                  go_roundw
                  case rel => exact ⟨4, by omega, rfl, HB9.out⟩
                  case measure => simp [intOf]
              | 4, _ =>
                have c0 : wr.cell? ⟨wo.heap.size + 1, 28, none⟩ = some (.int .u8 15) := (HC 28).trans rfl
                have c1 : wr.cell? ⟨wo.heap.size + 1, 29, none⟩ = some (.int .u16 (A.toNat : Int)) := (HC 29).trans rfl
                have c2 : wr.cell? ⟨wo.heap.size + 1, 30, none⟩ = some (.int .u16 (k : Int)) := (HC 30).trans rfl
                have c3 : wr.cell? ⟨wo.heap.size + 1, 31, none⟩ = some (.int .u16 0) := (HC 31).trans rfl
                have c4 : wr.cell? ⟨wo.heap.size + 1, 32, none⟩ = some (.slice none 0 0) := (HC 32).trans rfl
                have c5 : wr.cell? ⟨wo.heap.size + 1, 33, none⟩ = some (.slice (some ⟨w.heap.size, 0, none⟩) k k) := (HC 33).trans rfl
                have c6 : wr.cell? ⟨wo.heap.size + 1, 34, none⟩ = some (.int .i64 1968) := (HC 34).trans rfl
                clear HC
                by_cases g1 : 1 ≤ k
                · have s1 : decide ((1 : Int) ≤ (k : Int)) = true := by simp; omega
                  by_cases g2 : k ≤ 1968
                  · have s2 : decide ((k : Int) ≤ 1968) = true := by simp; omega
                    skip
                    go_wp2_with fail
                    refine (Right_at _ ⟨15, A, K, 0, [], List.replicate k false⟩ none 0 (some ⟨w.heap.size, 0, none⟩) k _ (by simp only [askV, HK.out, List.length_replicate]; rfl) (by simp; try omega) (by simp; try omega) (z := true) (by rw [(lim_bits A K (List.replicate k false) (by simpa using HK0.out.symm))]; simp; try (have := HK0.out; omega))).mono ?_
                    rintro e w9 ⟨rfl, hb9⟩
                    have HB9 := Lib.hid (says_on HQ.out hb9)
                    have c17 : w9.cell? ⟨wr.heap.size, 6, none⟩ = some (.int .i64 1968) := (hb9.cell (p := ⟨wr.heap.size, 6, none⟩) (by simp)).trans (World.cell?_alloc_new _ _ _ 6)
                    clear hb9 c0 c1 c2 c3 c4 c5 c6
                    go_wp2_with fail
                    go_roundw
                    case rel => exact ⟨5, by omega, rfl, HB9.out⟩
                    case measure => simp [intOf]
                  · have s2 : decide ((k : Int) ≤ 1968) = false := by simp; omega
                    omega
                · have s1 : decide ((1 : Int) ≤ (k : Int)) = false := by simp; omega
                  skip
                  go_wp2_with fail
                  refine (Right_at _ ⟨15, A, K, 0, [], List.replicate k false⟩ none 0 (some ⟨w.heap.size, 0, none⟩) k _ (by simp only [askV, HK.out, List.length_replicate]; rfl) (by simp; try omega) (by simp; try omega) (z := false) (by rw [(lim_bits A K (List.replicate k false) (by simpa using HK0.out.symm))]; simp; try (have := HK0.out; omega))).mono ?_
                  rintro e w9 ⟨rfl, hb9⟩
                  have HB9 := Lib.hid (says_on HQ.out hb9)
                  have c17 : w9.cell? ⟨wr.heap.size, 6, none⟩ = some (.int .i64 1968) := (hb9.cell (p := ⟨wr.heap.size, 6, none⟩) (by simp)).trans (World.cell?_alloc_new _ _ _ 6)
                  clear hb9 c0 c1 c2 c3 c4 c5 c6
                  go_wp2_with fail
                  go_roundw
                  case rel => exact ⟨5, by omega, rfl, HB9.out⟩
                  case measure => simp [intOf]
              | 5, _ =>
                have c0 : wr.cell? ⟨wo.heap.size + 1, 35, none⟩ = some (.int .u8 16) := (HC 35).trans rfl
                have c1 : wr.cell? ⟨wo.heap.size + 1, 36, none⟩ = some (.int .u16 (A.toNat : Int)) := (HC 36).trans rfl
                have c2 : wr.cell? ⟨wo.heap.size + 1, 37, none⟩ = some (.int .u16 (k : Int)) := (HC 37).trans rfl
                have c3 : wr.cell? ⟨wo.heap.size + 1, 38, none⟩ = some (.int .u16 0) := (HC 38).trans rfl
                have c4 : wr.cell? ⟨wo.heap.size + 1, 39, none⟩ = some (.slice (some ⟨w.heap.size + 1, 0, none⟩) k k) := (HC 39).trans rfl
                have c5 : wr.cell? ⟨wo.heap.size + 1, 40, none⟩ = some (.slice none 0 0) := (HC 40).trans rfl
                have c6 : wr.cell? ⟨wo.heap.size + 1, 41, none⟩ = some (.int .i64 123) := (HC 41).trans rfl
                clear HC
                by_cases g1 : 1 ≤ k
                · have s1 : decide ((1 : Int) ≤ (k : Int)) = true := by simp; omega
                  by_cases g2 : k ≤ 123
                  · have s2 : decide ((k : Int) ≤ 123) = true := by simp; omega
                    skip
                    go_wp2_with fail
                    refine (Right_at _ ⟨16, A, K, 0, List.replicate k 0, []⟩ (some ⟨w.heap.size + 1, 0, none⟩) k none 0 _ (by simp only [askV, HK.out, List.length_replicate]; rfl) (by simp; try omega) (by simp; try omega) (z := true) (by rw [(lim_words A K (List.replicate k 0) (by simpa using HK0.out.symm))]; simp; try (have := HK0.out; omega))).mono ?_
                    rintro e w9 ⟨rfl, hb9⟩
                    have HB9 := Lib.hid (says_on HQ.out hb9)
                    have c17 : w9.cell? ⟨wr.heap.size, 6, none⟩ = some (.int .i64 123) := (hb9.cell (p := ⟨wr.heap.size, 6, none⟩) (by simp)).trans (World.cell?_alloc_new _ _ _ 6)
                    clear hb9 c0 c1 c2 c3 c4 c5 c6
                    go_wp2_with fail
                    go_roundw
                    case rel => exact ⟨6, by omega, rfl, HB9.out⟩
                    case measure => simp [intOf]
                  · have s2 : decide ((k : Int) ≤ 123) = false := by simp; omega
                    skip
                    go_wp2_with fail
                    refine (Right_at _ ⟨16, A, K, 0, List.replicate k 0, []⟩ (some ⟨w.heap.size + 1, 0, none⟩) k none 0 _ (by simp only [askV, HK.out, List.length_replicate]; rfl) (by simp; try omega) (by simp; try omega) (z := false) (by rw [(lim_words A K (List.replicate k 0) (by simpa using HK0.out.symm))]; simp; try (have := HK0.out; omega))).mono ?_
                    rintro e w9 ⟨rfl, hb9⟩
                    have HB9 := Lib.hid (says_on HQ.out hb9)
                    have c17 : w9.cell? ⟨wr.heap.size, 6, none⟩ = some (.int .i64 123) := (hb9.cell (p := ⟨wr.heap.size, 6, none⟩) (by simp)).trans (World.cell?_alloc_new _ _ _ 6)
                    clear hb9 c0 c1 c2 c3 c4 c5 c6
                    go_wp2_with fail
                    go_roundw
                    case rel => exact ⟨6, by omega, rfl, HB9.out⟩
                    case measure => simp [intOf]
                · have s1 : decide ((1 : Int) ≤ (k : Int)) = false := by simp; omega
                  skip
                  go_wp2_with fail
                  refine (Right_at _ ⟨16, A, K, 0, List.replicate k 0, []⟩ (some ⟨w.heap.size + 1, 0, none⟩) k none 0 _ (by simp only [askV, HK.out, List.length_replicate]; rfl) (by simp; try omega) (by simp; try omega) (z := false) (by rw [(lim_words A K (List.replicate k 0) (by simpa using HK0.out.symm))]; simp; try (have := HK0.out; omega))).mono ?_
                  rintro e w9 ⟨rfl, hb9⟩
                  have HB9 := Lib.hid (says_on HQ.out hb9)
                  have c17 : w9.cell? ⟨wr.heap.size, 6, none⟩ = some (.int .i64 123) := (hb9.cell (p := ⟨wr.heap.size, 6, none⟩) (by simp)).trans (World.cell?_alloc_new _ _ _ 6)
                  clear hb9 c0 c1 c2 c3 c4 c5 c6
                  go_wp2_with fail
                  go_roundw
                  case rel => exact ⟨6, by omega, rfl, HB9.out⟩
                  case measure => simp [intOf]
              | 6, _ =>
                have c0 : wr.cell? ⟨wo.heap.size + 1, 42, none⟩ = some (.int .u8 23) := (HC 42).trans rfl
                have c1 : wr.cell? ⟨wo.heap.size + 1, 43, none⟩ = some (.int .u16 (A.toNat : Int)) := (HC 43).trans rfl
                have c2 : wr.cell? ⟨wo.heap.size + 1, 44, none⟩ = some (.int .u16 (k : Int)) := (HC 44).trans rfl
                have c3 : wr.cell? ⟨wo.heap.size + 1, 45, none⟩ = some (.int .u16 (T.toNat : Int)) := (HC 45).trans rfl
                have c4 : wr.cell? ⟨wo.heap.size + 1, 46, none⟩ = some (.slice (some ⟨wo.heap.size, 0, none⟩) 1 1) := (HC 46).trans rfl
                have c5 : wr.cell? ⟨wo.heap.size + 1, 47, none⟩ = some (.slice none 0 0) := (HC 47).trans rfl
                have c6 : wr.cell? ⟨wo.heap.size + 1, 48, none⟩ = some (.int .i64 125) := (HC 48).trans rfl
                clear HC
                by_cases g1 : 1 ≤ k
                · have s1 : decide ((1 : Int) ≤ (k : Int)) = true := by simp; omega
                  by_cases g2 : k ≤ 125
                  · have s2 : decide ((k : Int) ≤ 125) = true := by simp; omega
                    skip
                    go_wp2_with fail
                    refine (Right_at _ ⟨23, A, K, T, [X], []⟩ (some ⟨wo.heap.size, 0, none⟩) 1 none 0 _ (by simp only [askV, HK.out]; rfl) (by simp; try omega) (by simp; try omega) (z := true) (by rw [(lim_many A K T X)]; simp; try (have := HK0.out; omega))).mono ?_
                    rintro e w9 ⟨rfl, hb9⟩
                    have HB9 := Lib.hid (says_on HQ.out hb9)
                    have c17 : w9.cell? ⟨wr.heap.size, 6, none⟩ = some (.int .i64 125) := (hb9.cell (p := ⟨wr.heap.size, 6, none⟩) (by simp)).trans (World.cell?_alloc_new _ _ _ 6)
                    clear hb9 c0 c1 c2 c3 c4 c5 c6
                    go_wp2_with fail
                    go_roundw
                    case rel => exact ⟨7, by omega, rfl, HB9.out⟩
                    case measure => simp [intOf]
                  · have s2 : decide ((k : Int) ≤ 125) = false := by simp; omega
                    skip
                    go_wp2_with fail
                    refine (Right_at _ ⟨23, A, K, T, [X], []⟩ (some ⟨wo.heap.size, 0, none⟩) 1 none 0 _ (by simp only [askV, HK.out]; rfl) (by simp; try omega) (by simp; try omega) (z := false) (by rw [(lim_many A K T X)]; simp; try (have := HK0.out; omega))).mono ?_
                    rintro e w9 ⟨rfl, hb9⟩
                    have HB9 := Lib.hid (says_on HQ.out hb9)
                    have c17 : w9.cell? ⟨wr.heap.size, 6, none⟩ = some (.int .i64 125) := (hb9.cell (p := ⟨wr.heap.size, 6, none⟩) (by simp)).trans (World.cell?_alloc_new _ _ _ 6)
                    clear hb9 c0 c1 c2 c3 c4 c5 c6
                    go_wp2_with fail
                    go_roundw
                    case rel => exact ⟨7, by omega, rfl, HB9.out⟩
                    case measure => simp [intOf]
                · have s1 : decide ((1 : Int) ≤ (k : Int)) = false := by simp; omega
                  skip
                  go_wp2_with fail
                  refine (Right_at _ ⟨23, A, K, T, [X], []⟩ (some ⟨wo.heap.size, 0, none⟩) 1 none 0 _ (by simp only [askV, HK.out]; rfl) (by simp; try omega) (by simp; try omega) (z := false) (by rw [(lim_many A K T X)]; simp; try (have := HK0.out; omega))).mono ?_
                  rintro e w9 ⟨rfl, hb9⟩
                  have HB9 := Lib.hid (says_on HQ.out hb9)
                  have c17 : w9.cell? ⟨wr.heap.size, 6, none⟩ = some (.int .i64 125) := (hb9.cell (p := ⟨wr.heap.size, 6, none⟩) (by simp)).trans (World.cell?_alloc_new _ _ _ 6)
                  clear hb9 c0 c1 c2 c3 c4 c5 c6
                  go_wp2_with fail
                  go_roundw
                  case rel => exact ⟨7, by omega, rfl, HB9.out⟩
                  case measure => simp [intOf]
              | 7, _ =>
                have c0 : wr.cell? ⟨wo.heap.size + 1, 49, none⟩ = some (.int .u8 23) := (HC 49).trans rfl
                have c1 : wr.cell? ⟨wo.heap.size + 1, 50, none⟩ = some (.int .u16 (A.toNat : Int)) := (HC 50).trans rfl
                have c2 : wr.cell? ⟨wo.heap.size + 1, 51, none⟩ = some (.int .u16 1) := (HC 51).trans rfl
                have c3 : wr.cell? ⟨wo.heap.size + 1, 52, none⟩ = some (.int .u16 (T.toNat : Int)) := (HC 52).trans rfl
                have c4 : wr.cell? ⟨wo.heap.size + 1, 53, none⟩ = some (.slice (some ⟨w.heap.size + 1, 0, none⟩) k k) := (HC 53).trans rfl
                have c5 : wr.cell? ⟨wo.heap.size + 1, 54, none⟩ = some (.slice none 0 0) := (HC 54).trans rfl
                have c6 : wr.cell? ⟨wo.heap.size + 1, 55, none⟩ = some (.int .i64 121) := (HC 55).trans rfl
                clear HC
                by_cases g1 : 1 ≤ k
                · have s1 : decide ((1 : Int) ≤ (k : Int)) = true := by simp; omega
                  by_cases g2 : k ≤ 121
                  · have s2 : decide ((k : Int) ≤ 121) = true := by simp; omega
                    skip
                    go_wp2_with fail
                    refine (Right_at _ ⟨23, A, 1, T, List.replicate k 0, []⟩ (some ⟨w.heap.size + 1, 0, none⟩) k none 0 _ (by simp only [askV, List.length_replicate]; rfl) (by simp; try omega) (by simp; try omega) (z := true) (by rw [(lim_to A T (List.replicate k 0))]; simp; try (have := HK0.out; omega))).mono ?_
                    rintro e w9 ⟨rfl, hb9⟩
                    have HB9 := Lib.hid (says_on HQ.out hb9)
                    have c17 : w9.cell? ⟨wr.heap.size, 6, none⟩ = some (.int .i64 121) := (hb9.cell (p := ⟨wr.heap.size, 6, none⟩) (by simp)).trans (World.cell?_alloc_new _ _ _ 6)
                    clear hb9 c0 c1 c2 c3 c4 c5 c6
                    go_wp2_with fail
                    go_roundw
                    case rel => exact ⟨8, by omega, rfl, HB9.out⟩
                    case measure => simp [intOf]
                  · have s2 : decide ((k : Int) ≤ 121) = false := by simp; omega
                    skip
                    go_wp2_with fail
                    refine (Right_at _ ⟨23, A, 1, T, List.replicate k 0, []⟩ (some ⟨w.heap.size + 1, 0, none⟩) k none 0 _ (by simp only [askV, List.length_replicate]; rfl) (by simp; try omega) (by simp; try omega) (z := false) (by rw [(lim_to A T (List.replicate k 0))]; simp; try (have := HK0.out; omega))).mono ?_
                    rintro e w9 ⟨rfl, hb9⟩
                    have HB9 := Lib.hid (says_on HQ.out hb9)
                    have c17 : w9.cell? ⟨wr.heap.size, 6, none⟩ = some (.int .i64 121) := (hb9.cell (p := ⟨wr.heap.size, 6, none⟩) (by simp)).trans (World.cell?_alloc_new _ _ _ 6)
                    clear hb9 c0 c1 c2 c3 c4 c5 c6
                    go_wp2_with fail
                    go_roundw
                    case rel => exact ⟨8, by omega, rfl, HB9.out⟩
                    case measure => simp [intOf]
                · have s1 : decide ((1 : Int) ≤ (k : Int)) = false := by simp; omega
                  skip
                  go_wp2_with fail
                  refine (Right_at _ ⟨23, A, 1, T, List.replicate k 0, []⟩ (some ⟨w.heap.size + 1, 0, none⟩) k none 0 _ (by simp only [askV, List.length_replicate]; rfl) (by simp; try omega) (by simp; try omega) (z := false) (by rw [(lim_to A T (List.replicate k 0))]; simp; try (have := HK0.out; omega))).mono ?_
                  rintro e w9 ⟨rfl, hb9⟩
                  have HB9 := Lib.hid (says_on HQ.out hb9)
                  have c17 : w9.cell? ⟨wr.heap.size, 6, none⟩ = some (.int .i64 121) := (hb9.cell (p := ⟨wr.heap.size, 6, none⟩) (by simp)).trans (World.cell?_alloc_new _ _ _ 6)
                  clear hb9 c0 c1 c2 c3 c4 c5 c6
                  go_wp2_with fail
                  go_roundw
                  case rel => exact ⟨8, by omega, rfl, HB9.out⟩
                  case measure => simp [intOf]
            · obtain rfl : j = 8 := by omega
              have ht2 : decide (((8 : Nat) : Int) < 8) = false := by decide
              have HE := Lib.hid (HWB.out.trans (HQ.out.mono HWB.out.size))
              clear HQ HCB HWB
              by_cases k1 : k = 1
              · have s1 : ((k : Int) == 1) = true := by simp; omega
                have HK1 := Lib.hid k1
                clear k1
                obtain ⟨Q1, hQ1⟩ : ∃ Q1 : UInt16, Q1.toNat = k + 1 := ⟨UInt16.ofNat (k + 1), by simp; try omega⟩
                have HQ1 : Hid (b16 Q1 = .int .u16 ((k : Int) + 1)) := Lib.hid (by unfold b16; rw [hQ1]; rfl)
                have HQN := Lib.hid hQ1
                clear hQ1
                go_wp2_with fail
                refine (Right_at _ ⟨5, A, 0, 0, [], List.replicate k false⟩ none 0 (some ⟨w.heap.size, 0, none⟩) k _ (by simp only [askV, List.length_replicate]; rfl) (by simp; try omega) (by simp; try omega) (z := true) (by rw [lim_bit]; simp; try (have := HK1.out; omega))).mono ?_
                rintro e w9 ⟨rfl, hb9⟩
                have H9 := Lib.hid (HE.out.trans (hb9.mono HE.out.size))
                clear hb9 HE
                go_wp2_with fail
                refine (Right_at _ ⟨6, A, 0, 0, List.replicate k 0, []⟩ (some ⟨w.heap.size + 1, 0, none⟩) k none 0 _ (by simp only [askV, List.length_replicate]; rfl) (by simp; try omega) (by simp; try omega) (z := true) (by rw [lim_word]; simp; try (have := HK1.out; omega))).mono ?_
                rintro e w10 ⟨rfl, hb9⟩
                have H10 := Lib.hid (H9.out.trans (hb9.mono H9.out.size))
                clear hb9 H9
                go_wp2_with fail
                refine (Right_at _ ⟨16, A, Q1, 0, List.replicate k 0, []⟩ (some ⟨w.heap.size + 1, 0, none⟩) k none 0 _ (by simp only [askV, HQ1.out, List.length_replicate]; rfl) (by simp; try omega) (by simp; try omega) (z := false) (by exact lim_not A Q1 _ (by have := HQN.out; simp; omega))).mono ?_
                rintro e w11 ⟨rfl, hb9⟩
                have H11 := Lib.hid (H10.out.trans (hb9.mono H10.out.size))
                clear hb9 H10
                go_wp2_with fail
                refine (Right_at _ ⟨3, 0, 1, 1, [], []⟩ none 0 none 0 _ rfl (by simp; try omega) (by simp; try omega) (z := false) (by exact lim_to1)).mono ?_
                rintro e w12 ⟨rfl, hb9⟩
                have H12 := Lib.hid (H11.out.trans (hb9.mono H11.out.size))
                clear hb9 H11
                go_wp2_with fail
                refine (Right_at _ ⟨6, 0, 1, 0, [X], []⟩ (some ⟨w12.heap.size, 0, none⟩) 1 none 0 _ rfl (by simp; try omega) (by simp; try omega) (z := false) (by exact lim_many1 X)).mono ?_
                rintro e w13 ⟨rfl, hb9⟩
                have H13 := Lib.hid (says_on H12.out hb9)
                clear hb9 H12
                go_wp2_with fail
                refine (awake_any _).mono ?_
                rintro e w14 ⟨rfl, hb9⟩
                have H14 := Lib.hid (H13.out.trans (hb9.mono H13.out.size))
                go_wp2_with fail
                go_ret
                exact Says.mk H14.out
              · have s1 : ((k : Int) == 1) = false := by simp; omega
                have HK1 := Lib.hid k1
                clear k1
                obtain ⟨Q1, hQ1⟩ : ∃ Q1 : UInt16, Q1.toNat = k + 1 := ⟨UInt16.ofNat (k + 1), by simp; try omega⟩
                have HQ1 : Hid (b16 Q1 = .int .u16 ((k : Int) + 1)) := Lib.hid (by unfold b16; rw [hQ1]; rfl)
                have HQN := Lib.hid hQ1
                clear hQ1
                go_wp2_with fail
                refine (Right_at _ ⟨5, A, 0, 0, [], List.replicate k false⟩ none 0 (some ⟨w.heap.size, 0, none⟩) k _ (by simp only [askV, List.length_replicate]; rfl) (by simp; try omega) (by simp; try omega) (z := false) (by rw [lim_bit]; simp; try (have := HK1.out; omega))).mono ?_
                rintro e w9 ⟨rfl, hb9⟩
                have H9 := Lib.hid (HE.out.trans (hb9.mono HE.out.size))
                clear hb9 HE
                go_wp2_with fail
                refine (Right_at _ ⟨6, A, 0, 0, List.replicate k 0, []⟩ (some ⟨w.heap.size + 1, 0, none⟩) k none 0 _ (by simp only [askV, List.length_replicate]; rfl) (by simp; try omega) (by simp; try omega) (z := false) (by rw [lim_word]; simp; try (have := HK1.out; omega))).mono ?_
                rintro e w10 ⟨rfl, hb9⟩
                have H10 := Lib.hid (H9.out.trans (hb9.mono H9.out.size))
                clear hb9 H9
                go_wp2_with fail
                refine (Right_at _ ⟨16, A, Q1, 0, List.replicate k 0, []⟩ (some ⟨w.heap.size + 1, 0, none⟩) k none 0 _ (by simp only [askV, HQ1.out, List.length_replicate]; rfl) (by simp; try omega) (by simp; try omega) (z := false) (by exact lim_not A Q1 _ (by have := HQN.out; simp; omega))).mono ?_
                rintro e w11 ⟨rfl, hb9⟩
                have H11 := Lib.hid (H10.out.trans (hb9.mono H10.out.size))
                clear hb9 H10
                go_wp2_with fail
                refine (Right_at _ ⟨3, 0, 1, 1, [], []⟩ none 0 none 0 _ rfl (by simp; try omega) (by simp; try omega) (z := false) (by exact lim_to1)).mono ?_
                rintro e w12 ⟨rfl, hb9⟩
                have H12 := Lib.hid (H11.out.trans (hb9.mono H11.out.size))
                clear hb9 H11
                go_wp2_with fail
                refine (Right_at _ ⟨6, 0, 1, 0, [X], []⟩ (some ⟨w12.heap.size, 0, none⟩) 1 none 0 _ rfl (by simp; try omega) (by simp; try omega) (z := false) (by exact lim_many1 X)).mono ?_
                rintro e w13 ⟨rfl, hb9⟩
                have H13 := Lib.hid (says_on H12.out hb9)
                clear hb9 H12
                go_wp2_with fail
                refine (awake_any _).mono ?_
                rintro e w14 ⟨rfl, hb9⟩
                have H14 := Lib.hid (H13.out.trans (hb9.mono H13.out.size))
                go_wp2_with fail
                go_ret
                exact Says.mk H14.out
        · have tm : (200 : Int) < (k : Int) := by omega
          go_wp2_with fail
          obtain ⟨wo, rfl⟩ : ∃ wo : World, wo = wr := ⟨_, rfl⟩
          have HWB := Lib.hid (show Below w.heap.size w ((wo.alloc (.cells #[.int .u16 (X.toNat : Int)] 22)).alloc (.cells (limC (A.toNat : Int) (k : Int) (T.toNat : Int) (w.heap.size) (w.heap.size + 1) wo.heap.size k).toArray 44)) from (HBL.out.alloc HBL.out.size _).alloc (by have := HBL.out.size; simp; omega) _)
          have HCB := Lib.hid (at_one wo (.cells #[.int .u16 (X.toNat : Int)] 22) (.cells (limC (A.toNat : Int) (k : Int) (T.toNat : Int) (w.heap.size) (w.heap.size + 1) wo.heap.size k).toArray 44))
          change Code.wp _ _ _ _ ((wo.alloc (.cells #[.int .u16 (X.toNat : Int)] 22)).alloc (.cells (limC (A.toNat : Int) (k : Int) (T.toNat : Int) (w.heap.size) (w.heap.size + 1) wo.heap.size k).toArray 44))
          generalize (wo.alloc (.cells #[.int .u16 (X.toNat : Int)] 22)).alloc (.cells (limC (A.toNat : Int) (k : Int) (T.toNat : Int) (w.heap.size) (w.heap.size + 1) wo.heap.size k).toArray 44) = WB at *
          have HZB : Hid (wo.heap.size + 1 < WB.heap.size) := Lib.hid (by have h := (Array.getElem?_eq_some_iff.1 HCB.out).1; exact h)
          go_loopw [17, 90] (fun _ i wq => ∃ j : Nat, j ≤ 8 ∧ i = .int .i64 j ∧ Below WB.heap.size WB wq) (fun _ i _ => 8 - (intOf i).toNat)
          case atStart => exact ⟨0, by omega, rfl, Below.refl _ _⟩
          case round =>
            obtain ⟨j, hj, rfl, hq⟩ := hrel
            have HQ := Lib.hid hq
            clear hq
            by_cases hlt : j < 8
            · have hrow := (HQ.out.block _ HZB.out).trans HCB.out
              have HC := fun i => cell_of_row _ _ i _ _ _ hrow
              clear hrow
              match j, hlt with
              | 0, _ =>
                have c0 : wr.cell? ⟨wo.heap.size + 1, 0, none⟩ = some (.int .u8 1) := (HC 0).trans rfl
                have c1 : wr.cell? ⟨wo.heap.size + 1, 1, none⟩ = some (.int .u16 (A.toNat : Int)) := (HC 1).trans rfl
                have c2 : wr.cell? ⟨wo.heap.size + 1, 2, none⟩ = some (.int .u16 (k : Int)) := (HC 2).trans rfl
                have c3 : wr.cell? ⟨wo.heap.size + 1, 3, none⟩ = some (.int .u16 0) := (HC 3).trans rfl
                have c4 : wr.cell? ⟨wo.heap.size + 1, 4, none⟩ = some (.slice none 0 0) := (HC 4).trans rfl
                have c5 : wr.cell? ⟨wo.heap.size + 1, 5, none⟩ = some (.slice none 0 0) := (HC 5).trans rfl
                have c6 : wr.cell? ⟨wo.heap.size + 1, 6, none⟩ = some (.int .i64 2000) := (HC 6).trans rfl
                clear HC
                by_cases g1 : 1 ≤ k
                · have s1 : decide ((1 : Int) ≤ (k : Int)) = true := by simp; omega
                  by_cases g2 : k ≤ 2000
                  · have s2 : decide ((k : Int) ≤ 2000) = true := by simp; omega
                    skip
                    go_wp2_with fail
                    refine (Right_at _ ⟨1, A, K, 0, [], []⟩ none 0 none 0 _ (by simp only [askV, HK.out]; rfl) (by simp; try omega) (by simp; try omega) (z := true) (by rw [(lim_plain (c := 1) (most := 2000) rfl (by omega) A K)]; simp; try (have := HK0.out; omega))).mono ?_
                    rintro e w9 ⟨rfl, hb9⟩
                    have HB9 := Lib.hid (says_on HQ.out hb9)
                    have c17 : w9.cell? ⟨wr.heap.size, 6, none⟩ = some (.int .i64 2000) := (hb9.cell (p := ⟨wr.heap.size, 6, none⟩) (by simp)).trans (World.cell?_alloc_new _ _ _ 6)
                    clear hb9 c0 c1 c2 c3 c4 c5 c6
                    go_wp2_with fail
                    go_roundw
                    case rel => exact ⟨1, by omega, rfl, HB9.out⟩
                    case measure => simp [intOf]
                  · have s2 : decide ((k : Int) ≤ 2000) = false := by simp; omega
                    skip
                    go_wp2_with fail
                    refine (Right_at _ ⟨1, A, K, 0, [], []⟩ none 0 none 0 _ (by simp only [askV, HK.out]; rfl) (by simp; try omega) (by simp; try omega) (z := false) (by rw [(lim_plain (c := 1) (most := 2000) rfl (by omega) A K)]; simp; try (have := HK0.out; omega))).mono ?_
                    rintro e w9 ⟨rfl, hb9⟩
                    have HB9 := Lib.hid (says_on HQ.out hb9)
                    have c17 : w9.cell? ⟨wr.heap.size, 6, none⟩ = some (.int .i64 2000) := (hb9.cell (p := ⟨wr.heap.size, 6, none⟩) (by simp)).trans (World.cell?_alloc_new _ _ _ 6)
                    clear hb9 c0 c1 c2 c3 c4 c5 c6
                    go_wp2_with fail
                    go_roundw
                    case rel => exact ⟨1, by omega, rfl, HB9.out⟩
                    case measure => simp [intOf]
                · have s1 : decide ((1 : Int) ≤ (k : Int)) = false := by simp; omega
                  omega
              | 1, _ =>
                have c0 : wr.cell? ⟨wo.heap.size + 1, 7, none⟩ = some (.int .u8 2) := (HC 7).trans rfl
                have c1 : wr.cell? ⟨wo.heap.size + 1, 8, none⟩ = some (.int .u16 (A.toNat : Int)) := (HC 8).trans rfl
                have c2 : wr.cell? ⟨wo.heap.size + 1, 9, none⟩ = some (.int .u16 (k : Int)) := (HC 9).trans rfl
                have c3 : wr.cell? ⟨wo.heap.size + 1, 10, none⟩ = some (.int .u16 0) := (HC 10).trans rfl
                have c4 : wr.cell? ⟨wo.heap.size + 1, 11, none⟩ = some (.slice none 0 0) := (HC 11).trans rfl
                have c5 : wr.cell? ⟨wo.heap.size + 1, 12, none⟩ = some (.slice none 0 0) := (HC 12).trans rfl
                have c6 : wr.cell? ⟨wo.heap.size + 1, 13, none⟩ = some (.int .i64 2000) := (HC 13).trans rfl
                clear HC
                by_cases g1 : 1 ≤ k
                · have s1 : decide ((1 : Int) ≤ (k : Int)) = true := by simp; omega
                  by_cases g2 : k ≤ 2000
                  · have s2 : decide ((k : Int) ≤ 2000) = true := by simp; omega
                    skip
                    go_wp2_with fail
                    refine (Right_at _ ⟨2, A, K, 0, [], []⟩ none 0 none 0 _ (by simp only [askV, HK.out]; rfl) (by simp; try omega) (by simp; try omega) (z := true) (by rw [(lim_plain (c := 2) (most := 2000) rfl (by omega) A K)]; simp; try (have := HK0.out; omega))).mono ?_
                    rintro e w9 ⟨rfl, hb9⟩
                    have HB9 := Lib.hid (says_on HQ.out hb9)
                    have c17 : w9.cell? ⟨wr.heap.size, 6, none⟩ = some (.int .i64 2000) := (hb9.cell (p := ⟨wr.heap.size, 6, none⟩) (by simp)).trans (World.cell?_alloc_new _ _ _ 6)
                    clear hb9 c0 c1 c2 c3 c4 c5 c6
                    go_wp2_with fail
                    go_roundw
                    case rel => exact ⟨2, by omega, rfl, HB9.out⟩
                    case measure => simp [intOf]
                  · have s2 : decide ((k : Int) ≤ 2000) = false := by simp; omega
                    skip
                    go_wp2_with fail
                    refine (Right_at _ ⟨2, A, K, 0, [], []⟩ none 0 none 0 _ (by simp only [askV, HK.out]; rfl) (by simp; try omega) (by simp; try omega) (z := false) (by rw [(lim_plain (c := 2) (most := 2000) rfl (by omega) A K)]; simp; try (have := HK0.out; omega))).mono ?_
                    rintro e w9 ⟨rfl, hb9⟩
                    have HB9 := Lib.hid (says_on HQ.out hb9)
                    have c17 : w9.cell? ⟨wr.heap.size, 6, none⟩ = some (.int .i64 2000) := (hb9.cell (p := ⟨wr.heap.size, 6, none⟩) (by simp)).trans (World.cell?_alloc_new _ _ _ 6)
                    clear hb9 c0 c1 c2 c3 c4 c5 c6
                    go_wp2_with fail
                    go_roundw
                    case rel => exact ⟨2, by omega, rfl, HB9.out⟩
                    case measure => simp [intOf]
                · have s1 : decide ((1 : Int) ≤ (k : Int)) = false := by simp; omega
                  omega
              | 2, _ =>
                have c0 : wr.cell? ⟨wo.heap.size + 1, 14, none⟩ = some (.int .u8 3) := (HC 14).trans rfl
                have c1 : wr.cell? ⟨wo.heap.size + 1, 15, none⟩ = some (.int .u16 (A.toNat : Int)) := (HC 15).trans rfl
                have c2 : wr.cell? ⟨wo.heap.size + 1, 16, none⟩ = some (.int .u16 (k : Int)) := (HC 16).trans rfl
                have c3 : wr.cell? ⟨wo.heap.size + 1, 17, none⟩ = some (.int .u16 0) := (HC 17).trans rfl
                have c4 : wr.cell? ⟨wo.heap.size + 1, 18, none⟩ = some (.slice none 0 0) := (HC 18).trans rfl
                have c5 : wr.cell? ⟨wo.heap.size + 1, 19, none⟩ = some (.slice none 0 0) := (HC 19).trans rfl
                have c6 : wr.cell? ⟨wo.heap.size + 1, 20, none⟩ = some (.int .i64 125) := (HC 20).trans rfl
                clear HC
                by_cases g1 : 1 ≤ k
                · have s1 : decide ((1 : Int) ≤ (k : Int)) = true := by simp; omega
                  by_cases g2 : k ≤ 125
                  · have s2 : decide ((k : Int) ≤ 125) = true := by simp; omega
                    omega
                  · have s2 : decide ((k : Int) ≤ 125) = false := by simp; omega
                    skip
                    go_wp2_with fail
                    refine (Right_at _ ⟨3, A, K, 0, [], []⟩ none 0 none 0 _ (by simp only [askV, HK.out]; rfl) (by simp; try omega) (by simp; try omega) (z := false) (by rw [(lim_plain (c := 3) (most := 125) rfl (by omega) A K)]; simp; try (have := HK0.out; omega))).mono ?_
                    rintro e w9 ⟨rfl, hb9⟩
                    have HB9 := Lib.hid (says_on HQ.out hb9)
                    have c17 : w9.cell? ⟨wr.heap.size, 6, none⟩ = some (.int .i64 125) := (hb9.cell (p := ⟨wr.heap.size, 6, none⟩) (by simp)).trans (World.cell?_alloc_new _ _ _ 6)
                    clear hb9 c0 c1 c2 c3 c4 c5 c6
                    go_wp2_with fail
                    go_roundw
                    case rel => exact ⟨3, by omega, rfl, HB9.out⟩
                    case measure => simp [intOf]
                · have s1 : decide ((1 : Int) ≤ (k : Int)) = false := by simp; omega
                  omega
              | 3, _ =>
                have c0 : wr.cell? ⟨wo.heap.size + 1, 21, none⟩ = some (.int .u8 4) := (HC 21).trans rfl
                have c1 : wr.cell? ⟨wo.heap.size + 1, 22, none⟩ = some (.int .u16 (A.toNat : Int)) := (HC 22).trans rfl
                have c2 : wr.cell? ⟨wo.heap.size + 1, 23, none⟩ = some (.int .u16 (k : Int)) := (HC 23).trans rfl
                have c3 : wr.cell? ⟨wo.heap.size + 1, 24, none⟩ = some (.int .u16 0) := (HC 24).trans rfl
                have c4 : wr.cell? ⟨wo.heap.size + 1, 25, none⟩ = some (.slice none 0 0) := (HC 25).trans rfl
                have c5 : wr.cell? ⟨wo.heap.size + 1, 26, none⟩ = some (.slice none 0 0) := (HC 26).trans rfl
                have c6 : wr.cell? ⟨wo.heap.size + 1, 27, none⟩ = some (.int .i64 125) := (HC 27).trans rfl
                clear HC
                by_cases g1 : 1 ≤ k
                · have s1 : decide ((1 : Int) ≤ (k : Int)) = true := by simp; omega
                  by_cases g2 : k ≤ 125
                  · have s2 : decide ((k : Int) ≤ 125) = true := by simp; omega
                    omega
                  · have s2 : decide ((k : Int) ≤ 125) = false := by simp; omega
                    skip
                    go_wp2_with fail
                    refine (Right_at _ ⟨4, A, K, 0, [], []⟩ none 0 none 0 _ (by simp only [askV, HK.out]; rfl) (by simp; try omega) (by simp; try omega) (z := false) (by rw [(lim_plain (c := 4) (most := 125) rfl (by omega) A K)]; simp; try (have := HK0.out; omega))).mono ?_
                    rintro e w9 ⟨rfl, hb9⟩
                    have HB9 := Lib.hid (says_on HQ.out hb9)
                    have c17 : w9.cell? ⟨wr.heap.size, 6, none⟩ = some (.int .i64 125) := (hb9.cell (p := ⟨wr.heap.size, 6, none⟩) (by simp)).trans (World.cell?_alloc_new _ _ _ 6)
                    clear hb9 c0 c1 c2 c3 c4 c5 c6
                    go_wp2_with fail
                    go_roundw
                    case rel => exact ⟨4, by omega, rfl, HB9.out⟩
                    case measure => simp [intOf]
                · have s1 : decide ((1 : Int) ≤ (k : Int)) = false := by simp; omega
                  omega
              | 4, _ =>
                have c0 : wr.cell? ⟨wo.heap.size + 1, 28, none⟩ = some (.int .u8 15) := (HC 28).trans rfl
                have c1 : wr.cell? ⟨wo.heap.size + 1, 29, none⟩ = some (.int .u16 (A.toNat : Int)) := (HC 29).trans rfl
                have c2 : wr.cell? ⟨wo.heap.size + 1, 30, none⟩ = some (.int .u16 (k : Int)) := (HC 30).trans rfl
                have c3 : wr.cell? ⟨wo.heap.size + 1, 31, none⟩ = some (.int .u16 0) := (HC 31).trans rfl
                have c4 : wr.cell? ⟨wo.heap.size + 1, 32, none⟩ = some (.slice none 0 0) := (HC 32).trans rfl
                have c5 : wr.cell? ⟨wo.heap.size + 1, 33, none⟩ = some (.slice (some ⟨w.heap.size, 0, none⟩) k k) := (HC 33).trans rfl
                have c6 : wr.cell? ⟨wo.heap.size + 1, 34, none⟩ = some (.int .i64 1968) := (HC 34).trans rfl
                clear HC
                by_cases g1 : 1 ≤ k
                · have s1 : decide ((1 : Int) ≤ (k : Int)) = true := by simp; omega
                  by_cases g2 : k ≤ 1968
                  · have s2 : decide ((k : Int) ≤ 1968) = true := by simp; omega
                    skip
                    go_wp2_with fail
                    refine (Right_at _ ⟨15, A, K, 0, [], List.replicate k false⟩ none 0 (some ⟨w.heap.size, 0, none⟩) k _ (by simp only [askV, HK.out, List.length_replicate]; rfl) (by simp; try omega) (by simp; try omega) (z := true) (by rw [(lim_bits A K (List.replicate k false) (by simpa using HK0.out.symm))]; simp; try (have := HK0.out; omega))).mono ?_
                    rintro e w9 ⟨rfl, hb9⟩
                    have HB9 := Lib.hid (says_on HQ.out hb9)
                    have c17 : w9.cell? ⟨wr.heap.size, 6, none⟩ = some (.int .i64 1968) := (hb9.cell (p := ⟨wr.heap.size, 6, none⟩) (by simp)).trans (World.cell?_alloc_new _ _ _ 6)
                    clear hb9 c0 c1 c2 c3 c4 c5 c6
                    go_wp2_with fail
                    go_roundw
                    case rel => exact ⟨5, by omega, rfl, HB9.out⟩
                    case measure => simp [intOf]
                  · have s2 : decide ((k : Int) ≤ 1968) = false := by simp; omega
                    skip
                    go_wp2_with fail
                    refine (Right_at _ ⟨15, A, K, 0, [], List.replicate k false⟩ none 0 (some ⟨w.heap.size, 0, none⟩) k _ (by simp only [askV, HK.out, List.length_replicate]; rfl) (by simp; try omega) (by simp; try omega) (z := false) (by rw [(lim_bits A K (List.replicate k false) (by simpa using HK0.out.symm))]; simp; try (have := HK0.out; omega))).mono ?_
                    rintro e w9 ⟨rfl, hb9⟩
                    have HB9 := Lib.hid (says_on HQ.out hb9)
                    have c17 : w9.cell? ⟨wr.heap.size, 6, none⟩ = some (.int .i64 1968) := (hb9.cell (p := ⟨wr.heap.size, 6, none⟩) (by simp)).trans (World.cell?_alloc_new _ _ _ 6)
                    clear hb9 c0 c1 c2 c3 c4 c5 c6
                    go_wp2_with fail
                    go_roundw
                    case rel => exact ⟨5, by omega, rfl, HB9.out⟩
                    case measure => simp [intOf]
                · have s1 : decide ((1 : Int) ≤ (k : Int)) = false := by simp; omega
                  omega
              | 5, _ =>
                have c0 : wr.cell? ⟨wo.heap.size + 1, 35, none⟩ = some (.int .u8 16) := (HC 35).trans rfl
                have c1 : wr.cell? ⟨wo.heap.size + 1, 36, none⟩ = some (.int .u16 (A.toNat : Int)) := (HC 36).trans rfl
                have c2 : wr.cell? ⟨wo.heap.size + 1, 37, none⟩ = some (.int .u16 (k : Int)) := (HC 37).trans rfl
                have c3 : wr.cell? ⟨wo.heap.size + 1, 38, none⟩ = some (.int .u16 0) := (HC 38).trans rfl
                have c4 : wr.cell? ⟨wo.heap.size + 1, 39, none⟩ = some (.slice (some ⟨w.heap.size + 1, 0, none⟩) k k) := (HC 39).trans rfl
                have c5 : wr.cell? ⟨wo.heap.size + 1, 40, none⟩ = some (.slice none 0 0) := (HC 40).trans rfl
                have c6 : wr.cell? ⟨wo.heap.size + 1, 41, none⟩ = some (.int .i64 123) := (HC 41).trans rfl
                clear HC
                by_cases g1 : 1 ≤ k
                · have s1 : decide ((1 : Int) ≤ (k : Int)) = true := by simp; omega
                  by_cases g2 : k ≤ 123
                  · have s2 : decide ((k : Int) ≤ 123) = true := by simp; omega
                    omega
                  · have s2 : decide ((k : Int) ≤ 123) = false := by simp; omega
                    skip
                    go_wp2_with fail
                    refine (Right_at _ ⟨16, A, K, 0, List.replicate k 0, []⟩ (some ⟨w.heap.size + 1, 0, none⟩) k none 0 _ (by simp only [askV, HK.out, List.length_replicate]; rfl) (by simp; try omega) (by simp; try omega) (z := false) (by rw [(lim_words A K (List.replicate k 0) (by simpa using HK0.out.symm))]; simp; try (have := HK0.out; omega))).mono ?_
                    rintro e w9 ⟨rfl, hb9⟩
                    have HB9 := Lib.hid (says_on HQ.out hb9)
                    have c17 : w9.cell? ⟨wr.heap.size, 6, none⟩ = some (.int .i64 123) := (hb9.cell (p := ⟨wr.heap.size, 6, none⟩) (by simp)).trans (World.cell?_alloc_new _ _ _ 6)
                    clear hb9 c0 c1 c2 c3 c4 c5 c6
                    go_wp2_with fail
                    go_roundw
                    case rel => exact ⟨6, by omega, rfl, HB9.out⟩
                    case measure => simp [intOf]
                · have s1 : decide ((1 : Int) ≤ (k : Int)) = false := by simp; omega
                  omega
              | 6, _ =>
                have c0 : wr.cell? ⟨wo.heap.size + 1, 42, none⟩ = some (.int .u8 23) := (HC 42).trans rfl
                have c1 : wr.cell? ⟨wo.heap.size + 1, 43, none⟩ = some (.int .u16 (A.toNat : Int)) := (HC 43).trans rfl
                have c2 : wr.cell? ⟨wo.heap.size + 1, 44, none⟩ = some (.int .u16 (k : Int)) := (HC 44).trans rfl
                have c3 : wr.cell? ⟨wo.heap.size + 1, 45, none⟩ = some (.int .u16 (T.toNat : Int)) := (HC 45).trans rfl
                have c4 : wr.cell? ⟨wo.heap.size + 1, 46, none⟩ = some (.slice (some ⟨wo.heap.size, 0, none⟩) 1 1) := (HC 46).trans rfl
                have c5 : wr.cell? ⟨wo.heap.size + 1, 47, none⟩ = some (.slice none 0 0) := (HC 47).trans rfl
                have c6 : wr.cell? ⟨wo.heap.size + 1, 48, none⟩ = some (.int .i64 125) := (HC 48).trans rfl
                clear HC
                by_cases g1 : 1 ≤ k
                · have s1 : decide ((1 : Int) ≤ (k : Int)) = true := by simp; omega
                  by_cases g2 : k ≤ 125
                  · have s2 : decide ((k : Int) ≤ 125) = true := by simp; omega
                    omega
                  · have s2 : decide ((k : Int) ≤ 125) = false := by simp; omega
                    skip
                    go_wp2_with fail
                    refine (Right_at _ ⟨23, A, K, T, [X], []⟩ (some ⟨wo.heap.size, 0, none⟩) 1 none 0 _ (by simp only [askV, HK.out]; rfl) (by simp; try omega) (by simp; try omega) (z := false) (by rw [(lim_many A K T X)]; simp; try (have := HK0.out; omega))).mono ?_
                    rintro e w9 ⟨rfl, hb9⟩
                    have HB9 := Lib.hid (says_on HQ.out hb9)
                    have c17 : w9.cell? ⟨wr.heap.size, 6, none⟩ = some (.int .i64 125) := (hb9.cell (p := ⟨wr.heap.size, 6, none⟩) (by simp)).trans (World.cell?_alloc_new _ _ _ 6)
                    clear hb9 c0 c1 c2 c3 c4 c5 c6
                    go_wp2_with fail
                    go_roundw
                    case rel => exact ⟨7, by omega, rfl, HB9.out⟩
                    case measure => simp [intOf]
                · have s1 : decide ((1 : Int) ≤ (k : Int)) = false := by simp; omega
                  omega
              | 7, _ =>
                have c0 : wr.cell? ⟨wo.heap.size + 1, 49, none⟩ = some (.int .u8 23) := (HC 49).trans rfl
                have c1 : wr.cell? ⟨wo.heap.size + 1, 50, none⟩ = some (.int .u16 (A.toNat : Int)) := (HC 50).trans rfl
                have c2 : wr.cell? ⟨wo.heap.size + 1, 51, none⟩ = some (.int .u16 1) := (HC 51).trans rfl
                have c3 : wr.cell? ⟨wo.heap.size + 1, 52, none⟩ = some (.int .u16 (T.toNat : Int)) := (HC 52).trans rfl
                have c4 : wr.cell? ⟨wo.heap.size + 1, 53, none⟩ = some (.slice (some ⟨w.heap.size + 1, 0, none⟩) k k) := (HC 53).trans rfl
                have c5 : wr.cell? ⟨wo.heap.size + 1, 54, none⟩ = some (.slice none 0 0) := (HC 54).trans rfl
                have c6 : wr.cell? ⟨wo.heap.size + 1, 55, none⟩ = some (.int .i64 121) := (HC 55).trans rfl
                clear HC
                by_cases g1 : 1 ≤ k
                · have s1 : decide ((1 : Int) ≤ (k : Int)) = true := by simp; omega
                  by_cases g2 : k ≤ 121
                  · have s2 : decide ((k : Int) ≤ 121) = true := by simp; omega
                    omega
                  · have s2 : decide ((k : Int) ≤ 121) = false := by simp; omega
                    skip
                    go_wp2_with fail
                    refine (Right_at _ ⟨23, A, 1, T, List.replicate k 0, []⟩ (some ⟨w.heap.size + 1, 0, none⟩) k none 0 _ (by simp only [askV, List.length_replicate]; rfl) (by simp; try omega) (by simp; try omega) (z := false) (by rw [(lim_to A T (List.replicate k 0))]; simp; try (have := HK0.out; omega))).mono ?_
                    rintro e w9 ⟨rfl, hb9⟩
                    have HB9 := Lib.hid (says_on HQ.out hb9)
                    have c17 : w9.cell? ⟨wr.heap.size, 6, none⟩ = some (.int .i64 121) := (hb9.cell (p := ⟨wr.heap.size, 6, none⟩) (by simp)).trans (World.cell?_alloc_new _ _ _ 6)
                    clear hb9 c0 c1 c2 c3 c4 c5 c6
                    go_wp2_with fail
                    go_roundw
                    case rel => exact ⟨8, by omega, rfl, HB9.out⟩
                    case measure => simp [intOf]
                · have s1 : decide ((1 : Int) ≤ (k : Int)) = false := by simp; omega
                  omega
            · obtain rfl : j = 8 := by omega
              have ht2 : decide (((8 : Nat) : Int) < 8) = false := by decide
              have HE := Lib.hid (HWB.out.trans (HQ.out.mono HWB.out.size))
              clear HQ HCB HWB
              by_cases k1 : k = 1
              · have s1 : ((k : Int) == 1) = true := by simp; omega
                have HK1 := Lib.hid k1
                clear k1
                obtain ⟨Q1, hQ1⟩ : ∃ Q1 : UInt16, Q1.toNat = 200 + 1 := ⟨UInt16.ofNat (200 + 1), by simp; try omega⟩
                have HQ1 : Hid (b16 Q1 = .int .u16 (201)) := Lib.hid (by unfold b16; rw [hQ1]; rfl)
                have HQN := Lib.hid hQ1
                clear hQ1
                go_wp2_with fail
                refine (Right_at _ ⟨5, A, 0, 0, [], List.replicate k false⟩ none 0 (some ⟨w.heap.size, 0, none⟩) k _ (by simp only [askV, List.length_replicate]; rfl) (by simp; try omega) (by simp; try omega) (z := true) (by rw [lim_bit]; simp; try (have := HK1.out; omega))).mono ?_
                rintro e w9 ⟨rfl, hb9⟩
                have H9 := Lib.hid (HE.out.trans (hb9.mono HE.out.size))
                clear hb9 HE
                go_wp2_with fail
                refine (Right_at _ ⟨6, A, 0, 0, List.replicate k 0, []⟩ (some ⟨w.heap.size + 1, 0, none⟩) k none 0 _ (by simp only [askV, List.length_replicate]; rfl) (by simp; try omega) (by simp; try omega) (z := true) (by rw [lim_word]; simp; try (have := HK1.out; omega))).mono ?_
                rintro e w10 ⟨rfl, hb9⟩
                have H10 := Lib.hid (H9.out.trans (hb9.mono H9.out.size))
                clear hb9 H9
                go_wp2_with fail
                refine (Right_at _ ⟨16, A, Q1, 0, List.replicate 200 0, []⟩ (some ⟨w.heap.size + 1, 0, none⟩) k none 0 _ (by simp only [askV, HQ1.out, List.length_replicate]; rfl) (by simp; try omega) (by simp; try omega) (z := false) (by exact lim_not A Q1 _ (by have := HQN.out; simp; omega))).mono ?_
                rintro e w11 ⟨rfl, hb9⟩
                have H11 := Lib.hid (H10.out.trans (hb9.mono H10.out.size))
                clear hb9 H10
                go_wp2_with fail
                refine (Right_at _ ⟨3, 0, 1, 1, [], []⟩ none 0 none 0 _ rfl (by simp; try omega) (by simp; try omega) (z := false) (by exact lim_to1)).mono ?_
                rintro e w12 ⟨rfl, hb9⟩
                have H12 := Lib.hid (H11.out.trans (hb9.mono H11.out.size))
                clear hb9 H11
                go_wp2_with fail
                refine (Right_at _ ⟨6, 0, 1, 0, [X], []⟩ (some ⟨w12.heap.size, 0, none⟩) 1 none 0 _ rfl (by simp; try omega) (by simp; try omega) (z := false) (by exact lim_many1 X)).mono ?_
                rintro e w13 ⟨rfl, hb9⟩
                have H13 := Lib.hid (says_on H12.out hb9)
                clear hb9 H12
                go_wp2_with fail
                refine (awake_any _).mono ?_
                rintro e w14 ⟨rfl, hb9⟩
                have H14 := Lib.hid (H13.out.trans (hb9.mono H13.out.size))
                go_wp2_with fail
                go_ret
                exact Says.mk H14.out
              · have s1 : ((k : Int) == 1) = false := by simp; omega
                have HK1 := Lib.hid k1
                clear k1
                obtain ⟨Q1, hQ1⟩ : ∃ Q1 : UInt16, Q1.toNat = 200 + 1 := ⟨UInt16.ofNat (200 + 1), by simp; try omega⟩
                have HQ1 : Hid (b16 Q1 = .int .u16 (201)) := Lib.hid (by unfold b16; rw [hQ1]; rfl)
                have HQN := Lib.hid hQ1
                clear hQ1
                go_wp2_with fail
                refine (Right_at _ ⟨5, A, 0, 0, [], List.replicate k false⟩ none 0 (some ⟨w.heap.size, 0, none⟩) k _ (by simp only [askV, List.length_replicate]; rfl) (by simp; try omega) (by simp; try omega) (z := false) (by rw [lim_bit]; simp; try (have := HK1.out; omega))).mono ?_
                rintro e w9 ⟨rfl, hb9⟩
                have H9 := Lib.hid (HE.out.trans (hb9.mono HE.out.size))
                clear hb9 HE
                go_wp2_with fail
                refine (Right_at _ ⟨6, A, 0, 0, List.replicate k 0, []⟩ (some ⟨w.heap.size + 1, 0, none⟩) k none 0 _ (by simp only [askV, List.length_replicate]; rfl) (by simp; try omega) (by simp; try omega) (z := false) (by rw [lim_word]; simp; try (have := HK1.out; omega))).mono ?_
                rintro e w10 ⟨rfl, hb9⟩
                have H10 := Lib.hid (H9.out.trans (hb9.mono H9.out.size))
                clear hb9 H9
                go_wp2_with fail
                refine (Right_at _ ⟨16, A, Q1, 0, List.replicate 200 0, []⟩ (some ⟨w.heap.size + 1, 0, none⟩) k none 0 _ (by simp only [askV, HQ1.out, List.length_replicate]; rfl) (by simp; try omega) (by simp; try omega) (z := false) (by exact lim_not A Q1 _ (by have := HQN.out; simp; omega))).mono ?_
                rintro e w11 ⟨rfl, hb9⟩
                have H11 := Lib.hid (H10.out.trans (hb9.mono H10.out.size))
                clear hb9 H10
                go_wp2_with fail
                refine (Right_at _ ⟨3, 0, 1, 1, [], []⟩ none 0 none 0 _ rfl (by simp; try omega) (by simp; try omega) (z := false) (by exact lim_to1)).mono ?_
                rintro e w12 ⟨rfl, hb9⟩
                have H12 := Lib.hid (H11.out.trans (hb9.mono H11.out.size))
                clear hb9 H11
                go_wp2_with fail
                refine (Right_at _ ⟨6, 0, 1, 0, [X], []⟩ (some ⟨w12.heap.size, 0, none⟩) 1 none 0 _ rfl (by simp; try omega) (by simp; try omega) (z := false) (by exact lim_many1 X)).mono ?_
                rintro e w13 ⟨rfl, hb9⟩
                have H13 := Lib.hid (says_on H12.out hb9)
                clear hb9 H12
                go_wp2_with fail
                refine (awake_any _).mono ?_
                rintro e w14 ⟨rfl, hb9⟩
                have H14 := Lib.hid (H13.out.trans (hb9.mono H13.out.size))
                go_wp2_with fail
                go_ret
                exact Says.mk H14.out
  · clear hmB hmW
    have HL := Lib.hid (limBA w n)
    go_wp2_with fail
    go_loopw [27] (fun i wr => ∃ k : Nat, k ≤ n ∧ i = .int .i64 k ∧ LimW w wr (w.heap.size + 1) (w.heap.size) n) (fun i _ => n - (intOf i).toNat)
    case atStart => exact ⟨0, by omega, rfl, HL.out⟩
    case round =>
      obtain ⟨k, hk, rfl, hlw⟩ := hrel
      by_cases hlt : k < n
      · have ht : decide ((k : Int) < (n : Int)) = true := by simp; omega
        obtain ⟨⟨y1, hc1⟩, hf1⟩ := hlw.bit hlt
        have hl2 := hlw.setB (k := k) (v := .bool on)
        obtain ⟨⟨y2, hc2⟩, hf2⟩ := hl2.word hlt
        have HL3 := Lib.hid (hl2.setW (k := k) (v := b16 X))
        clear hlw hl2
        go_wp2_with fail
        go_roundw
        case rel => exact ⟨k + 1, by omega, by go_num, HL3.out⟩
        case measure => simp [intOf]; omega
      · obtain rfl : k = n := by omega
        have ht : decide ((k : Int) < (k : Int)) = false := by simp
        have HBL := Lib.hid hlw.below
        clear hlw HL
        by_cases h2 : k ≤ 200
        · have tm : (k : Int) ≤ 200 := by omega
          go_wp2_with fail
          obtain ⟨wo, rfl⟩ : ∃ wo : World, wo = wr := ⟨_, rfl⟩
          have HWB := Lib.hid (show Below w.heap.size w ((wo.alloc (.cells #[.int .u16 (X.toNat : Int)] 22)).alloc (.cells (limC (A.toNat : Int) (k : Int) (T.toNat : Int) (w.heap.size + 1) (w.heap.size) wo.heap.size k).toArray 44)) from (HBL.out.alloc HBL.out.size _).alloc (by have := HBL.out.size; simp; omega) _)
          have HCB := Lib.hid (at_one wo (.cells #[.int .u16 (X.toNat : Int)] 22) (.cells (limC (A.toNat : Int) (k : Int) (T.toNat : Int) (w.heap.size + 1) (w.heap.size) wo.heap.size k).toArray 44))
          change Code.wp _ _ _ _ ((wo.alloc (.cells #[.int .u16 (X.toNat : Int)] 22)).alloc (.cells (limC (A.toNat : Int) (k : Int) (T.toNat : Int) (w.heap.size + 1) (w.heap.size) wo.heap.size k).toArray 44))
          generalize (wo.alloc (.cells #[.int .u16 (X.toNat : Int)] 22)).alloc (.cells (limC (A.toNat : Int) (k : Int) (T.toNat : Int) (w.heap.size + 1) (w.heap.size) wo.heap.size k).toArray 44) = WB at *
          have HZB : Hid (wo.heap.size + 1 < WB.heap.size) := Lib.hid (by have h := (Array.getElem?_eq_some_iff.1 HCB.out).1; exact h)
          go_loopw [17, 90] (fun _ i wq => ∃ j : Nat, j ≤ 8 ∧ i = .int .i64 j ∧ Below WB.heap.size WB wq) (fun _ i _ => 8 - (intOf i).toNat)
          case atStart => exact ⟨0, by omega, rfl, Below.refl _ _⟩
          case round =>
            obtain ⟨j, hj, rfl, hq⟩ := hrel
            have HQ := Lib.hid hq
            clear hq
            by_cases hlt : j < 8
            · have hrow := (HQ.out.block _ HZB.out).trans HCB.out
              have HC := fun i => cell_of_row _ _ i _ _ _ hrow
              clear hrow
              match j, hlt with
              | 0, _ =>
                have c0 : wr.cell? ⟨wo.heap.size + 1, 0, none⟩ = some (.int .u8 1) := (HC 0).trans rfl
                have c1 : wr.cell? ⟨wo.heap.size + 1, 1, none⟩ = some (.int .u16 (A.toNat : Int)) := (HC 1).trans rfl
                have c2 : wr.cell? ⟨wo.heap.size + 1, 2, none⟩ = some (.int .u16 (k : Int)) := (HC 2).trans rfl
                have c3 : wr.cell? ⟨wo.heap.size + 1, 3, none⟩ = some (.int .u16 0) := (HC 3).trans rfl
                have c4 : wr.cell? ⟨wo.heap.size + 1, 4, none⟩ = some (.slice none 0 0) := (HC 4).trans rfl
                have c5 : wr.cell? ⟨wo.heap.size + 1, 5, none⟩ = some (.slice none 0 0) := (HC 5).trans rfl
                have c6 : wr.cell? ⟨wo.heap.size + 1, 6, none⟩ = some (.int .i64 2000) := (HC 6).trans rfl
                clear HC
                by_cases g1 : 1 ≤ k
                · have s1 : decide ((1 : Int) ≤ (k : Int)) = true := by simp; omega
                  by_cases g2 : k ≤ 2000
                  · have s2 : decide ((k : Int) ≤ 2000) = true := by simp; omega
                    skip
                    go_wp2_with fail
                    refine (Right_at _ ⟨1, A, K, 0, [], []⟩ none 0 none 0 _ (by simp only [askV, HK.out]; rfl) (by simp; try omega) (by simp; try omega) (z := true) (by rw [(lim_plain (c := 1) (most := 2000) rfl (by omega) A K)]; simp; try (have := HK0.out; omega))).mono ?_
                    rintro e w9 ⟨rfl, hb9⟩
                    have HB9 := Lib.hid (says_on HQ.out hb9)
                    have c17 : w9.cell? ⟨wr.heap.size, 6, none⟩ = some (.int .i64 2000) := (hb9.cell (p := ⟨wr.heap.size, 6, none⟩) (by simp)).trans (World.cell?_alloc_new _ _ _ 6)
                    clear hb9 c0 c1 c2 c3 c4 c5 c6
                    go_wp2_with fail
                    go_roundw
                    case rel => exact ⟨1, by omega, rfl, HB9.out⟩
                    case measure => simp [intOf]
                  · have s2 : decide ((k : Int) ≤ 2000) = false := by simp; omega
                    omega
                · have s1 : decide ((1 : Int) ≤ (k : Int)) = false := by simp; omega
                  skip
                  go_wp2_with fail
                  refine (Right_at _ ⟨1, A, K, 0, [], []⟩ none 0 none 0 _ (by simp only [askV, HK.out]; rfl) (by simp; try omega) (by simp; try omega) (z := false) (by rw [(lim_plain (c := 1) (most := 2000) rfl (by omega) A K)]; simp; try (have := HK0.out; omega))).mono ?_
                  rintro e w9 ⟨rfl, hb9⟩
                  have HB9 := Lib.hid (says_on HQ.out hb9)
                  have c17 : w9.cell? ⟨wr.heap.size, 6, none⟩ = some (.int .i64 2000) := (hb9.cell (p := ⟨wr.heap.size, 6, none⟩) (by simp)).trans (World.cell?_alloc_new _ _ _ 6)
                  clear hb9 c0 c1 c2 c3 c4 c5 c6
                  go_wp2_with fail
                  go_roundw
                  case rel => exact ⟨1, by omega, rfl, HB9.out⟩
                  case measure => simp [intOf]
              | 1, _ =>
                have c0 : wr.cell? ⟨wo.heap.size + 1, 7, none⟩ = some (.int .u8 2) := (HC 7).trans rfl
                have c1 : wr.cell? ⟨wo.heap.size + 1, 8, none⟩ = some (.int .u16 (A.toNat : Int)) := (HC 8).trans rfl
                have c2 : wr.cell? ⟨wo.heap.size + 1, 9, none⟩ = some (.int .u16 (k : Int)) := (HC 9).trans rfl
                have c3 : wr.cell? ⟨wo.heap.size + 1, 10, none⟩ = some (.int .u16 0) := (HC 10).trans rfl
                have c4 : wr.cell? ⟨wo.heap.size + 1, 11, none⟩ = some (.slice none 0 0) := (HC 11).trans rfl
                have c5 : wr.cell? ⟨wo.heap.size + 1, 12, none⟩ = some (.slice none 0 0) := (HC 12).trans rfl
                have c6 : wr.cell? ⟨wo.heap.size + 1, 13, none⟩ = some (.int .i64 2000) := (HC 13).trans rfl
                clear HC
                by_cases g1 : 1 ≤ k
                · have s1 : decide ((1 : Int) ≤ (k : Int)) = true := by simp; omega
                  by_cases g2 : k ≤ 2000
                  · have s2 : decide ((k : Int) ≤ 2000) = true := by simp; omega
                    skip
                    go_wp2_with fail
                    refine (Right_at _ ⟨2, A, K, 0, [], []⟩ none 0 none 0 _ (by simp only [askV, HK.out]; rfl) (by simp; try omega) (by simp; try omega) (z := true) (by rw [(lim_plain (c := 2) (most := 2000) rfl (by omega) A K)]; simp; try (have := HK0.out; omega))).mono ?_
                    rintro e w9 ⟨rfl, hb9⟩
                    have HB9 := Lib.hid (says_on HQ.out hb9)
                    have c17 : w9.cell? ⟨wr.heap.size, 6, none⟩ = some (.int .i64 2000) := (hb9.cell (p := ⟨wr.heap.size, 6, none⟩) (by simp)).trans (World.cell?_alloc_new _ _ _ 6)
                    clear hb9 c0 c1 c2 c3 c4 c5 c6
                    go_wp2_with fail
                    go_roundw
                    case rel => exact ⟨2, by omega, rfl, HB9.out⟩
                    case measure => simp [intOf]
                  · have s2 : decide ((k : Int) ≤ 2000) = false := by simp; omega
                    omega
                · have s1 : decide ((1 : Int) ≤ (k : Int)) = false := by simp; omega
                  skip
                  go_wp2_with fail
                  refine (Right_at _ ⟨2, A, K, 0, [], []⟩ none 0 none 0 _ (by simp only [askV, HK.out]; rfl) (by simp; try omega) (by simp; try omega) (z := false) (by rw [(lim_plain (c := 2) (most := 2000) rfl (by omega) A K)]; simp; try (have := HK0.out; omega))).mono ?_
                  rintro e w9 ⟨rfl, hb9⟩
                  have HB9 := Lib.hid (says_on HQ.out hb9)
                  have c17 : w9.cell? ⟨wr.heap.size, 6, none⟩ = some (.int .i64 2000) := (hb9.cell (p := ⟨wr.heap.size, 6, none⟩) (by simp)).trans (World.cell?_alloc_new _ _ _ 6)
                  clear hb9 c0 c1 c2 c3 c4 c5 c6
                  go_wp2_with fail
                  go_roundw
                  case rel => exact ⟨2, by omega, rfl, HB9.out⟩
                  case measure => simp [intOf]
              | 2, _ =>
                have c0 : wr.cell? ⟨wo.heap.size + 1, 14, none⟩ = some (.int .u8 3) := (HC 14).trans rfl
                have c1 : wr.cell? ⟨wo.heap.size + 1, 15, none⟩ = some (.int .u16 (A.toNat : Int)) := (HC 15).trans rfl
                have c2 : wr.cell? ⟨wo.heap.size + 1, 16, none⟩ = some (.int .u16 (k : Int)) := (HC 16).trans rfl
                have c3 : wr.cell? ⟨wo.heap.size + 1, 17, none⟩ = some (.int .u16 0) := (HC 17).trans rfl
                have c4 : wr.cell? ⟨wo.heap.size + 1, 18, none⟩ = some (.slice none 0 0) := (HC 18).trans rfl
                have c5 : wr.cell? ⟨wo.heap.size + 1, 19, none⟩ = some (.slice none 0 0) := (HC 19).trans rfl
                have c6 : wr.cell? ⟨wo.heap.size + 1, 20, none⟩ = some (.int .i64 125) := (HC 20).trans rfl
                clear HC
                by_cases g1 : 1 ≤ k
                · have s1 : decide ((1 : Int) ≤ (k : Int)) = true := by simp; omega
                  by_cases g2 : k ≤ 125
                  · have s2 : decide ((k : Int) ≤ 125) = true := by simp; omega
                    skip
                    go_wp2_with fail
                    refine (Right_at _ ⟨3, A, K, 0, [], []⟩ none 0 none 0 _ (by simp only [askV, HK.out]; rfl) (by simp; try omega) (by simp; try omega) (z := true) (by rw [(lim_plain (c := 3) (most := 125) rfl (by omega) A K)]; simp; try (have := HK0.out; omega))).mono ?_
                    rintro e w9 ⟨rfl, hb9⟩
                    have HB9 := Lib.hid (says_on HQ.out hb9)
                    have c17 : w9.cell? ⟨wr.heap.size, 6, none⟩ = some (.int .i64 125) := (hb9.cell (p := ⟨wr.heap.size, 6, none⟩) (by simp)).trans (World.cell?_alloc_new _ _ _ 6)
                    clear hb9 c0 c1 c2 c3 c4 c5 c6
                    go_wp2_with fail
                    go_roundw
                    case rel => exact ⟨3, by omega, rfl, HB9.out⟩
                    case measure => simp [intOf]
                  · have s2 : decide ((k : Int) ≤ 125) = false := by simp; omega
                    skip
                    go_wp2_with fail
                    refine (Right_at _ ⟨3, A, K, 0, [], []⟩ none 0 none 0 _ (by simp only [askV, HK.out]; rfl) (by simp; try omega) (by simp; try omega) (z := false) (by rw [(lim_plain (c := 3) (most := 125) rfl (by omega) A K)]; simp; try (have := HK0.out; omega))).mono ?_
                    rintro e w9 ⟨rfl, hb9⟩
                    have HB9 := Lib.hid (says_on HQ.out hb9)
                    have c17 : w9.cell? ⟨wr.heap.size, 6, none⟩ = some (.int .i64 125) := (hb9.cell (p := ⟨wr.heap.size, 6, none⟩) (by simp)).trans (World.cell?_alloc_new _ _ _ 6)
                    clear hb9 c0 c1 c2 c3 c4 c5 c6
                    go_wp2_with fail
                    go_roundw
                    case rel => exact ⟨3, by omega, rfl, HB9.out⟩
                    case measure => simp [intOf]
                · have s1 : decide ((1 : Int) ≤ (k : Int)) = false := by simp; omega
                  skip
                  go_wp2_with fail
                  refine (Right_at _ ⟨3, A, K, 0, [], []⟩ none 0 none 0 _ (by simp only [askV, HK.out]; rfl) (by simp; try omega) (by simp; try omega) (z := false) (by rw [(lim_plain (c := 3) (most := 125) rfl (by omega) A K)]; simp; try (have := HK0.out; omega))).mono ?_
                  rintro e w9 ⟨rfl, hb9⟩
                  have HB9 := Lib.hid (says_on HQ.out hb9)
                  have c17 : w9.cell? ⟨wr.heap.size, 6, none⟩ = some (.int .i64 125) := (hb9.cell (p := ⟨wr.heap.size, 6, none⟩) (by simp)).trans (World.cell?_alloc_new _ _ _ 6)
                  clear hb9 c0 c1 c2 c3 c4 c5 c6
                  go_wp2_with fail
                  go_roundw
                  case rel => exact ⟨3, by omega, rfl, HB9.out⟩
                  case measure => simp [intOf]
              | 3, _ =>
                have c0 : wr.cell? ⟨wo.heap.size + 1, 21, none⟩ = some (.int .u8 4) := (HC 21).trans rfl
                have c1 : wr.cell? ⟨wo.heap.size + 1, 22, none⟩ = some (.int .u16 (A.toNat : Int)) := (HC 22).trans rfl
                have c2 : wr.cell? ⟨wo.heap.size + 1, 23, none⟩ = some (.int .u16 (k : Int)) := (HC 23).trans rfl
                have c3 : wr.cell? ⟨wo.heap.size + 1, 24, none⟩ = some (.int .u16 0) := (HC 24).trans rfl
                have c4 : wr.cell? ⟨wo.heap.size + 1, 25, none⟩ = some (.slice none 0 0) := (HC 25).trans rfl
                have c5 : wr.cell? ⟨wo.heap.size + 1, 26, none⟩ = some (.slice none 0 0) := (HC 26).trans rfl
                have c6 : wr.cell? ⟨wo.heap.size + 1, 27, none⟩ = some (.int .i64 125) := (HC 27).trans rfl
                clear HC
                by_cases g1 : 1 ≤ k
                · have s1 : decide ((1 : Int) ≤ (k : Int)) = true := by simp; omega
                  by_cases g2 : k ≤ 125
                  · have s2 : decide ((k : Int) ≤ 125) = true := by simp; omega
                    skip
                    go_wp2_with fail
                    refine (Right_at _ ⟨4, A, K, 0, [], []⟩ none 0 none 0 _ (by simp only [askV, HK.out]; rfl) (by simp; try omega) (by simp; try omega) (z := true) (by rw [(lim_plain (c := 4) (most := 125) rfl (by omega) A K)]; simp; try (have := HK0.out; omega))).mono ?_
                    rintro e w9 ⟨rfl, hb9⟩
                    have HB9 := Lib.hid (says_on HQ.out hb9)
                    have c17 : w9.cell? ⟨wr.heap.size, 6, none⟩ = some (.int .i64 125) := (hb9.cell (p := ⟨wr.heap.size, 6, none⟩) (by simp)).trans (World.cell?_alloc_new _ _ _ 6)
                    clear hb9 c0 c1 c2 c3 c4 c5 c6
                    go_wp2_with fail
                    go_roundw
                    case rel => exact ⟨4, by omega, rfl, HB9.out⟩
                    case measure => simp [intOf]
                  · have s2 : decide ((k : Int) ≤ 125) = false := by simp; omega
                    skip
                    go_wp2_with fail
                    refine (Right_at _ ⟨4, A, K, 0, [], []⟩ none 0 none 0 _ (by simp only [askV, HK.out]; rfl) (by simp; try omega) (by simp; try omega) (z := false) (by rw [(lim_plain (c := 4) (most := 125) rfl (by omega) A K)]; simp; try (have := HK0.out; omega))).mono ?_
                    rintro e w9 ⟨rfl, hb9⟩
                    have HB9 := Lib.hid (says_on HQ.out hb9)
                    have c17 : w9.cell? ⟨wr.heap.size, 6, none⟩ = some (.int .i64 125) := (hb9.cell (p := ⟨wr.heap.size, 6, none⟩) (by simp)).trans (World.cell?_alloc_new _ _ _ 6)
                    clear hb9 c0 c1 c2 c3 c4 c5 c6
                    go_wp2_with fail
                    go_roundw
                    case rel => exact ⟨4, by omega, rfl, HB9.out⟩
                    case measure => simp [intOf]
                · have s1 : decide ((1 : Int) ≤ (k : Int)) = false := by simp; omega
                  skip
                  go_wp2_with fail
                  refine (Right_at _ ⟨4, A, K, 0, [], []⟩ none 0 none 0 _ (by simp only [askV, HK.out]; rfl) (by simp; try omega) (by simp; try omega) (z := false) (by rw [(lim_plain (c := 4) (most := 125) rfl (by omega) A K)]; simp; try (have := HK0.out; omega))).mono ?_
                  rintro e w9 ⟨rfl, hb9⟩
                  have HB9 := Lib.hid (says_on HQ.out hb9)
                  have c17 : w9.cell? ⟨wr.heap.size, 6, none⟩ = some (.int .i64 125) := (hb9.cell (p := ⟨wr.heap.size, 6, none⟩) (by simp)).trans (World.cell?_alloc_new _ _ _ 6)
                  clear hb9 c0 c1 c2 c3 c4 c5 c6
                  go_wp2_with fail
                  go_roundw
                  case rel => exact ⟨4, by omega, rfl, HB9.out⟩
                  case measure => simp [intOf]
              | 4, _ =>
                have c0 : wr.cell? ⟨wo.heap.size + 1, 28, none⟩ = some (.int .u8 15) := (HC 28).trans rfl
                have c1 : wr.cell? ⟨wo.heap.size + 1, 29, none⟩ = some (.int .u16 (A.toNat : Int)) := (HC 29).trans rfl
                have c2 : wr.cell? ⟨wo.heap.size + 1, 30, none⟩ = some (.int .u16 (k : Int)) := (HC 30).trans rfl
                have c3 : wr.cell? ⟨wo.heap.size + 1, 31, none⟩ = some (.int .u16 0) := (HC 31).trans rfl
                have c4 : wr.cell? ⟨wo.heap.size + 1, 32, none⟩ = some (.slice none 0 0) := (HC 32).trans rfl
                have c5 : wr.cell? ⟨wo.heap.size + 1, 33, none⟩ = some (.slice (some ⟨w.heap.size + 1, 0, none⟩) k k) := (HC 33).trans rfl
                have c6 : wr.cell? ⟨wo.heap.size + 1, 34, none⟩ = some (.int .i64 1968) := (HC 34).trans rfl
                clear HC
                by_cases g1 : 1 ≤ k
                · have s1 : decide ((1 : Int) ≤ (k : Int)) = true := by simp; omega
                  by_cases g2 : k ≤ 1968
                  · have s2 : decide ((k : Int) ≤ 1968) = true := by simp; omega
                    skip
                    go_wp2_with fail
                    refine (Right_at _ ⟨15, A, K, 0, [], List.replicate k false⟩ none 0 (some ⟨w.heap.size + 1, 0, none⟩) k _ (by simp only [askV, HK.out, List.length_replicate]; rfl) (by simp; try omega) (by simp; try omega) (z := true) (by rw [(lim_bits A K (List.replicate k false) (by simpa using HK0.out.symm))]; simp; try (have := HK0.out; omega))).mono ?_
                    rintro e w9 ⟨rfl, hb9⟩
                    have HB9 := Lib.hid (says_on HQ.out hb9)
                    have c17 : w9.cell? ⟨wr.heap.size, 6, none⟩ = some (.int .i64 1968) := (hb9.cell (p := ⟨wr.heap.size, 6, none⟩) (by simp)).trans (World.cell?_alloc_new _ _ _ 6)
                    clear hb9 c0 c1 c2 c3 c4 c5 c6
                    go_wp2_with fail
                    go_roundw
                    case rel => exact ⟨5, by omega, rfl, HB9.out⟩
                    case measure => simp [intOf]
                  · have s2 : decide ((k : Int) ≤ 1968) = false := by simp; omega
                    omega
                · have s1 : decide ((1 : Int) ≤ (k : Int)) = false := by simp; omega
                  skip
                  go_wp2_with fail
                  refine (Right_at _ ⟨15, A, K, 0, [], List.replicate k false⟩ none 0 (some ⟨w.heap.size + 1, 0, none⟩) k _ (by simp only [askV, HK.out, List.length_replicate]; rfl) (by simp; try omega) (by simp; try omega) (z := false) (by rw [(lim_bits A K (List.replicate k false) (by simpa using HK0.out.symm))]; simp; try (have := HK0.out; omega))).mono ?_
                  rintro e w9 ⟨rfl, hb9⟩
                  have HB9 := Lib.hid (says_on HQ.out hb9)
                  have c17 : w9.cell? ⟨wr.heap.size, 6, none⟩ = some (.int .i64 1968) := (hb9.cell (p := ⟨wr.heap.size, 6, none⟩) (by simp)).trans (World.cell?_alloc_new _ _ _ 6)
                  clear hb9 c0 c1 c2 c3 c4 c5 c6
                  go_wp2_with fail
                  go_roundw
                  case rel => exact ⟨5, by omega, rfl, HB9.out⟩
                  case measure => simp [intOf]
              | 5, _ =>
                have c0 : wr.cell? ⟨wo.heap.size + 1, 35, none⟩ = some (.int .u8 16) := (HC 35).trans rfl
                have c1 : wr.cell? ⟨wo.heap.size + 1, 36, none⟩ = some (.int .u16 (A.toNat : Int)) := (HC 36).trans rfl
                have c2 : wr.cell? ⟨wo.heap.size + 1, 37, none⟩ = some (.int .u16 (k : Int)) := (HC 37).trans rfl
                have c3 : wr.cell? ⟨wo.heap.size + 1, 38, none⟩ = some (.int .u16 0) := (HC 38).trans rfl
                have c4 : wr.cell? ⟨wo.heap.size + 1, 39, none⟩ = some (.slice (some ⟨w.heap.size, 0, none⟩) k k) := (HC 39).trans rfl
                have c5 : wr.cell? ⟨wo.heap.size + 1, 40, none⟩ = some (.slice none 0 0) := (HC 40).trans rfl
                have c6 : wr.cell? ⟨wo.heap.size + 1, 41, none⟩ = some (.int .i64 123) := (HC 41).trans rfl
                clear HC
                by_cases g1 : 1 ≤ k
                · have s1 : decide ((1 : Int) ≤ (k : Int)) = true := by simp; omega
                  by_cases g2 : k ≤ 123
                  · have s2 : decide ((k : Int) ≤ 123) = true := by simp; omega
                    skip
                    go_wp2_with fail
                    refine (Right_at _ ⟨16, A, K, 0, List.replicate k 0, []⟩ (some ⟨w.heap.size, 0, none⟩) k none 0 _ (by simp only [askV, HK.out, List.length_replicate]; rfl) (by simp; try omega) (by simp; try omega) (z := true) (by rw [(lim_words A K (List.replicate k 0) (by simpa using HK0.out.symm))]; simp; try (have := HK0.out; omega))).mono ?_
                    rintro e w9 ⟨rfl, hb9⟩
                    have HB9 := Lib.hid (says_on HQ.out hb9)
                    have c17 : w9.cell? ⟨wr.heap.size, 6, none⟩ = some (.int .i64 123) := (hb9.cell (p := ⟨wr.heap.size, 6, none⟩) (by simp)).trans (World.cell?_alloc_new _ _ _ 6)
                    clear hb9 c0 c1 c2 c3 c4 c5 c6
                    go_wp2_with fail
                    go_roundw
                    case rel => exact ⟨6, by omega, rfl, HB9.out⟩
                    case measure => simp [intOf]
                  · have s2 : decide ((k : Int) ≤ 123) = false := by simp; omega
                    skip
                    go_wp2_with fail
                    refine (Right_at _ ⟨16, A, K, 0, List.replicate k 0, []⟩ (some ⟨w.heap.size, 0, none⟩) k none 0 _ (by simp only [askV, HK.out, List.length_replicate]; rfl) (by simp; try omega) (by simp; try omega) (z := false) (by rw [(lim_words A K (List.replicate k 0) (by simpa using HK0.out.symm))]; simp; try (have := HK0.out; omega))).mono ?_
                    rintro e w9 ⟨rfl, hb9⟩
                    have HB9 := Lib.hid (says_on HQ.out hb9)
                    have c17 : w9.cell? ⟨wr.heap.size, 6, none⟩ = some (.int .i64 123) := (hb9.cell (p := ⟨wr.heap.size, 6, none⟩) (by simp)).trans (World.cell?_alloc_new _ _ _ 6)
                    clear hb9 c0 c1 c2 c3 c4 c5 c6
                    go_wp2_with fail
                    go_roundw
                    case rel => exact ⟨6, by omega, rfl, HB9.out⟩
                    case measure => simp [intOf]
                · have s1 : decide ((1 : Int) ≤ (k : Int)) = false := by simp; omega
                  skip
                  go_wp2_with fail
                  refine (Right_at _ ⟨16, A, K, 0, List.replicate k 0, []⟩ (some ⟨w.heap.size, 0, none⟩) k none 0 _ (by simp only [askV, HK.out, List.length_replicate]; rfl) (by simp; try omega) (by simp; try omega) (z := false) (by rw [(lim_words A K (List.replicate k 0) (by simpa using HK0.out.symm))]; simp; try (have := HK0.out; omega))).mono ?_
                  rintro e w9 ⟨rfl, hb9⟩
                  have HB9 := Lib.hid (says_on HQ.out hb9)
                  have c17 : w9.cell? ⟨wr.heap.size, 6, none⟩ = some (.int .i64 123) := (hb9.cell (p := ⟨wr.heap.size, 6, none⟩) (by simp)).trans (World.cell?_alloc_new _ _ _ 6)
                  clear hb9 c0 c1 c2 c3 c4 c5 c6
                  go_wp2_with fail
                  go_roundw
                  case rel => exact ⟨6, by omega, rfl, HB9.out⟩
                  case measure => simp [intOf]
              | 6, _ =>
                have c0 : wr.cell? ⟨wo.heap.size + 1, 42, none⟩ = some (.int .u8 23) := (HC 42).trans rfl
                have c1 : wr.cell? ⟨wo.heap.size + 1, 43, none⟩ = some (.int .u16 (A.toNat : Int)) := (HC 43).trans rfl
                have c2 : wr.cell? ⟨wo.heap.size + 1, 44, none⟩ = some (.int .u16 (k : Int)) := (HC 44).trans rfl
                have c3 : wr.cell? ⟨wo.heap.size + 1, 45, none⟩ = some (.int .u16 (T.toNat : Int)) := (HC 45).trans rfl
                have c4 : wr.cell? ⟨wo.heap.size + 1, 46, none⟩ = some (.slice (some ⟨wo.heap.size, 0, none⟩) 1 1) := (HC 46).trans rfl
                have c5 : wr.cell? ⟨wo.heap.size + 1, 47, none⟩ = some (.slice none 0 0) := (HC 47).trans rfl
                have c6 : wr.cell? ⟨wo.heap.size + 1, 48, none⟩ = some (.int .i64 125) := (HC 48).trans rfl
                clear HC
                by_cases g1 : 1 ≤ k
                · have s1 : decide ((1 : Int) ≤ (k : Int)) = true := by simp; omega
                  by_cases g2 : k ≤ 125
                  · have s2 : decide ((k : Int) ≤ 125) = true := by simp; omega
                    skip
                    go_wp2_with fail
                    refine (Right_at _ ⟨23, A, K, T, [X], []⟩ (some ⟨wo.heap.size, 0, none⟩) 1 none 0 _ (by simp only [askV, HK.out]; rfl) (by simp; try omega) (by simp; try omega) (z := true) (by rw [(lim_many A K T X)]; simp; try (have := HK0.out; omega))).mono ?_
                    rintro e w9 ⟨rfl, hb9⟩
                    have HB9 := Lib.hid (says_on HQ.out hb9)
                    have c17 : w9.cell? ⟨wr.heap.size, 6, none⟩ = some (.int .i64 125) := (hb9.cell (p := ⟨wr.heap.size, 6, none⟩) (by simp)).trans (World.cell?_alloc_new _ _ _ 6)
                    clear hb9 c0 c1 c2 c3 c4 c5 c6
                    go_wp2_with fail
                    go_roundw
                    case rel => exact ⟨7, by omega, rfl, HB9.out⟩
                    case measure => simp [intOf]
                  · have s2 : decide ((k : Int) ≤ 125) = false := by simp; omega
                    skip
                    go_wp2_with fail
                    refine (Right_at _ ⟨23, A, K, T, [X], []⟩ (some ⟨wo.heap.size, 0, none⟩) 1 none 0 _ (by simp only [askV, HK.out]; rfl) (by simp; try omega) (by simp; try omega) (z := false) (by rw [(lim_many A K T X)]; simp; try (have := HK0.out; omega))).mono ?_
                    rintro e w9 ⟨rfl, hb9⟩
                    have HB9 := Lib.hid (says_on HQ.out hb9)
                    have c17 : w9.cell? ⟨wr.heap.size, 6, none⟩ = some (.int .i64 125) := (hb9.cell (p := ⟨wr.heap.size, 6, none⟩) (by simp)).trans (World.cell?_alloc_new _ _ _ 6)
                    clear hb9 c0 c1 c2 c3 c4 c5 c6
                    go_wp2_with fail
                    go_roundw
                    case rel => exact ⟨7, by omega, rfl, HB9.out⟩
                    case measure => simp [intOf]
                · have s1 : decide ((1 : Int) ≤ (k : Int)) = false := by simp; omega
                  skip
                  go_wp2_with fail
                  refine (Right_at _ ⟨23, A, K, T, [X], []⟩ (some ⟨wo.heap.size, 0, none⟩) 1 none 0 _ (by simp only [askV, HK.out]; rfl) (by simp; try omega) (by simp; try omega) (z := false) (by rw [(lim_many A K T X)]; simp; try (have := HK0.out; omega))).mono ?_
                  rintro e w9 ⟨rfl, hb9⟩
                  have HB9 := Lib.hid (says_on HQ.out hb9)
                  have c17 : w9.cell? ⟨wr.heap.size, 6, none⟩ = some (.int .i64 125) := (hb9.cell (p := ⟨wr.heap.size, 6, none⟩) (by simp)).trans (World.cell?_alloc_new _ _ _ 6)
                  clear hb9 c0 c1 c2 c3 c4 c5 c6
                  go_wp2_with fail
                  go_roundw
                  case rel => exact ⟨7, by omega, rfl, HB9.out⟩
                  case measure => simp [intOf]
              | 7, _ =>
                have c0 : wr.cell? ⟨wo.heap.size + 1, 49, none⟩ = some (.int .u8 23) := (HC 49).trans rfl
                have c1 : wr.cell? ⟨wo.heap.size + 1, 50, none⟩ = some (.int .u16 (A.toNat : Int)) := (HC 50).trans rfl
                have c2 : wr.cell? ⟨wo.heap.size + 1, 51, none⟩ = some (.int .u16 1) := (HC 51).trans rfl
                have c3 : wr.cell? ⟨wo.heap.size + 1, 52, none⟩ = some (.int .u16 (T.toNat : Int)) := (HC 52).trans rfl
                have c4 : wr.cell? ⟨wo.heap.size + 1, 53, none⟩ = some (.slice (some ⟨w.heap.size, 0, none⟩) k k) := (HC 53).trans rfl
                have c5 : wr.cell? ⟨wo.heap.size + 1, 54, none⟩ = some (.slice none 0 0) := (HC 54).trans rfl
                have c6 : wr.cell? ⟨wo.heap.size + 1, 55, none⟩ = some (.int .i64 121) := (HC 55).trans rfl
                clear HC
                by_cases g1 : 1 ≤ k
                · have s1 : decide ((1 : Int) ≤ (k : Int)) = true := by simp; omega
                  by_cases g2 : k ≤ 121
                  · have s2 : decide ((k : Int) ≤ 121) = true := by simp; omega
                    skip
                    go_wp2_with fail
                    refine (Right_at _ ⟨23, A, 1, T, List.replicate k 0, []⟩ (some ⟨w.heap.size, 0, none⟩) k none 0 _ (by simp only [askV, List.length_replicate]; rfl) (by simp; try omega) (by simp; try omega) (z := true) (by rw [(lim_to A T (List.replicate k 0))]; simp; try (have := HK0.out; omega))).mono ?_
                    rintro e w9 ⟨rfl, hb9⟩
                    have HB9 := Lib.hid (says_on HQ.out hb9)
                    have c17 : w9.cell? ⟨wr.heap.size, 6, none⟩ = some (.int .i64 121) := (hb9.cell (p := ⟨wr.heap.size, 6, none⟩) (by simp)).trans (World.cell?_alloc_new _ _ _ 6)
                    clear hb9 c0 c1 c2 c3 c4 c5 c6
                    go_wp2_with fail
                    go_roundw
                    case rel => exact ⟨8, by omega, rfl, HB9.out⟩
                    case measure => simp [intOf]
                  · have s2 : decide ((k : Int) ≤ 121) = false := by simp; omega
                    skip
                    go_wp2_with fail
                    refine (Right_at _ ⟨23, A, 1, T, List.replicate k 0, []⟩ (some ⟨w.heap.size, 0, none⟩) k none 0 _ (by simp only [askV, List.length_replicate]; rfl) (by simp; try omega) (by simp; try omega) (z := false) (by rw [(lim_to A T (List.replicate k 0))]; simp; try (have := HK0.out; omega))).mono ?_
                    rintro e w9 ⟨rfl, hb9⟩
                    have HB9 := Lib.hid (says_on HQ.out hb9)
                    have c17 : w9.cell? ⟨wr.heap.size, 6, none⟩ = some (.int .i64 121) := (hb9.cell (p := ⟨wr.heap.size, 6, none⟩) (by simp)).trans (World.cell?_alloc_new _ _ _ 6)
                    clear hb9 c0 c1 c2 c3 c4 c5 c6
                    go_wp2_with fail
                    go_roundw
                    case rel => exact ⟨8, by omega, rfl, HB9.out⟩
                    case measure => simp [intOf]
                · have s1 : decide ((1 : Int) ≤ (k : Int)) = false := by simp; omega
                  skip
                  go_wp2_with fail
                  refine (Right_at _ ⟨23, A, 1, T, List.replicate k 0, []⟩ (some ⟨w.heap.size, 0, none⟩) k none 0 _ (by simp only [askV, List.length_replicate]; rfl) (by simp; try omega) (by simp; try omega) (z := false) (by rw [(lim_to A T (List.replicate k 0))]; simp; try (have := HK0.out; omega))).mono ?_
                  rintro e w9 ⟨rfl, hb9⟩
                  have HB9 := Lib.hid (says_on HQ.out hb9)
                  have c17 : w9.cell? ⟨wr.heap.size, 6, none⟩ = some (.int .i64 121) := (hb9.cell (p := ⟨wr.heap.size, 6, none⟩) (by simp)).trans (World.cell?_alloc_new _ _ _ 6)
                  clear hb9 c0 c1 c2 c3 c4 c5 c6
                  go_wp2_with fail
                  go_roundw
                  case rel => exact ⟨8, by omega, rfl, HB9.out⟩
                  case measure => simp [intOf]
            · obtain rfl : j = 8 := by omega
              have ht2 : decide (((8 : Nat) : Int) < 8) = false := by decide
              have HE := Lib.hid (HWB.out.trans (HQ.out.mono HWB.out.size))
              clear HQ HCB HWB
              by_cases k1 : k = 1
              · have s1 : ((k : Int) == 1) = true := by simp; omega
                have HK1 := Lib.hid k1
                clear k1
                obtain ⟨Q1, hQ1⟩ : ∃ Q1 : UInt16, Q1.toNat = k + 1 := ⟨UInt16.ofNat (k + 1), by simp; try omega⟩
                have HQ1 : Hid (b16 Q1 = .int .u16 ((k : Int) + 1)) := Lib.hid (by unfold b16; rw [hQ1]; rfl)
                have HQN := Lib.hid hQ1
                clear hQ1
                go_wp2_with fail
                refine (Right_at _ ⟨5, A, 0, 0, [], List.replicate k false⟩ none 0 (some ⟨w.heap.size + 1, 0, none⟩) k _ (by simp only [askV, List.length_replicate]; rfl) (by simp; try omega) (by simp; try omega) (z := true) (by rw [lim_bit]; simp; try (have := HK1.out; omega))).mono ?_
                rintro e w9 ⟨rfl, hb9⟩
                have H9 := Lib.hid (HE.out.trans (hb9.mono HE.out.size))
                clear hb9 HE
                go_wp2_with fail
                refine (Right_at _ ⟨6, A, 0, 0, List.replicate k 0, []⟩ (some ⟨w.heap.size, 0, none⟩) k none 0 _ (by simp only [askV, List.length_replicate]; rfl) (by simp; try omega) (by simp; try omega) (z := true) (by rw [lim_word]; simp; try (have := HK1.out; omega))).mono ?_
                rintro e w10 ⟨rfl, hb9⟩
                have H10 := Lib.hid (H9.out.trans (hb9.mono H9.out.size))
                clear hb9 H9
                go_wp2_with fail
                refine (Right_at _ ⟨16, A, Q1, 0, List.replicate k 0, []⟩ (some ⟨w.heap.size, 0, none⟩) k none 0 _ (by simp only [askV, HQ1.out, List.length_replicate]; rfl) (by simp; try omega) (by simp; try omega) (z := false) (by exact lim_not A Q1 _ (by have := HQN.out; simp; omega))).mono ?_
                rintro e w11 ⟨rfl, hb9⟩
                have H11 := Lib.hid (H10.out.trans (hb9.mono H10.out.size))
                clear hb9 H10
                go_wp2_with fail
                refine (Right_at _ ⟨3, 0, 1, 1, [], []⟩ none 0 none 0 _ rfl (by simp; try omega) (by simp; try omega) (z := false) (by exact lim_to1)).mono ?_
                rintro e w12 ⟨rfl, hb9⟩
                have H12 := Lib.hid (H11.out.trans (hb9.mono H11.out.size))
                clear hb9 H11
                go_wp2_with fail
                refine (Right_at _ ⟨6, 0, 1, 0, [X], []⟩ (some ⟨w12.heap.size, 0, none⟩) 1 none 0 _ rfl (by simp; try omega) (by simp; try omega) (z := false) (by exact lim_many1 X)).mono ?_
                rintro e w13 ⟨rfl, hb9⟩
                have H13 := Lib.hid (says_on H12.out hb9)
                clear hb9 H12
                go_wp2_with fail
                refine (awake_any _).mono ?_
                rintro e w14 ⟨rfl, hb9⟩
                have H14 := Lib.hid (H13.out.trans (hb9.mono H13.out.size))
                go_wp2_with fail
                go_ret
                exact Says.mk H14.out
              · have s1 : ((k : Int) == 1) = false := by simp; omega
                have HK1 := Lib.hid k1
                clear k1
                obtain ⟨Q1, hQ1⟩ : ∃ Q1 : UInt16, Q1.toNat = k + 1 := ⟨UInt16.ofNat (k + 1), by simp; try omega⟩
                have HQ1 : Hid (b16 Q1 = .int .u16 ((k : Int) + 1)) := Lib.hid (by unfold b16; rw [hQ1]; rfl)
                have HQN := Lib.hid hQ1
                clear hQ1
                go_wp2_with fail
                refine (Right_at _ ⟨5, A, 0, 0, [], List.replicate k false⟩ none 0 (some ⟨w.heap.size + 1, 0, none⟩) k _ (by simp only [askV, List.length_replicate]; rfl) (by simp; try omega) (by simp; try omega) (z := false) (by rw [lim_bit]; simp; try (have := HK1.out; omega))).mono ?_
                rintro e w9 ⟨rfl, hb9⟩
                have H9 := Lib.hid (HE.out.trans (hb9.mono HE.out.size))
                clear hb9 HE
                go_wp2_with fail
                refine (Right_at _ ⟨6, A, 0, 0, List.replicate k 0, []⟩ (some ⟨w.heap.size, 0, none⟩) k none 0 _ (by simp only [askV, List.length_replicate]; rfl) (by simp; try omega) (by simp; try omega) (z := false) (by rw [lim_word]; simp; try (have := HK1.out; omega))).mono ?_
                rintro e w10 ⟨rfl, hb9⟩
                have H10 := Lib.hid (H9.out.trans (hb9.mono H9.out.size))
                clear hb9 H9
                go_wp2_with fail
                refine (Right_at _ ⟨16, A, Q1, 0, List.replicate k 0, []⟩ (some ⟨w.heap.size, 0, none⟩) k none 0 _ (by simp only [askV, HQ1.out, List.length_replicate]; rfl) (by simp; try omega) (by simp; try omega) (z := false) (by exact lim_not A Q1 _ (by have := HQN.out; simp; omega))).mono ?_
                rintro e w11 ⟨rfl, hb9⟩
                have H11 := Lib.hid (H10.out.trans (hb9.mono H10.out.size))
                clear hb9 H10
                go_wp2_with fail
                refine (Right_at _ ⟨3, 0, 1, 1, [], []⟩ none 0 none 0 _ rfl (by simp; try omega) (by simp; try omega) (z := false) (by exact lim_to1)).mono ?_
                rintro e w12 ⟨rfl, hb9⟩
                have H12 := Lib.hid (H11.out.trans (hb9.mono H11.out.size))
                clear hb9 H11
                go_wp2_with fail
                refine (Right_at _ ⟨6, 0, 1, 0, [X], []⟩ (some ⟨w12.heap.size, 0, none⟩) 1 none 0 _ rfl (by simp; try omega) (by simp; try omega) (z := false) (by exact lim_many1 X)).mono ?_
                rintro e w13 ⟨rfl, hb9⟩
                have H13 := Lib.hid (says_on H12.out hb9)
                clear hb9 H12
                go_wp2_with fail
                refine (awake_any _).mono ?_
                rintro e w14 ⟨rfl, hb9⟩
                have H14 := Lib.hid (H13.out.trans (hb9.mono H13.out.size))
                go_wp2_with fail
                go_ret
                exact Says.mk H14.out
        · have tm : (200 : Int) < (k : Int) := by omega
          go_wp2_with fail
          obtain ⟨wo, rfl⟩ : ∃ wo : World, wo = wr := ⟨_, rfl⟩
          have HWB := Lib.hid (show Below w.heap.size w ((wo.alloc (.cells #[.int .u16 (X.toNat : Int)] 22)).alloc (.cells (limC (A.toNat : Int) (k : Int) (T.toNat : Int) (w.heap.size + 1) (w.heap.size) wo.heap.size k).toArray 44)) from (HBL.out.alloc HBL.out.size _).alloc (by have := HBL.out.size; simp; omega) _)
          have HCB := Lib.hid (at_one wo (.cells #[.int .u16 (X.toNat : Int)] 22) (.cells (limC (A.toNat : Int) (k : Int) (T.toNat : Int) (w.heap.size + 1) (w.heap.size) wo.heap.size k).toArray 44))
          change Code.wp _ _ _ _ ((wo.alloc (.cells #[.int .u16 (X.toNat : Int)] 22)).alloc (.cells (limC (A.toNat : Int) (k : Int) (T.toNat : Int) (w.heap.size + 1) (w.heap.size) wo.heap.size k).toArray 44))
          generalize (wo.alloc (.cells #[.int .u16 (X.toNat : Int)] 22)).alloc (.cells (limC (A.toNat : Int) (k : Int) (T.toNat : Int) (w.heap.size + 1) (w.heap.size) wo.heap.size k).toArray 44) = WB at *
          have HZB : Hid (wo.heap.size + 1 < WB.heap.size) := Lib.hid (by have h := (Array.getElem?_eq_some_iff.1 HCB.out).1; exact h)
          go_loopw [17, 90] (fun _ i wq => ∃ j : Nat, j ≤ 8 ∧ i = .int .i64 j ∧ Below WB.heap.size WB wq) (fun _ i _ => 8 - (intOf i).toNat)
          case atStart => exact ⟨0, by omega, rfl, Below.refl _ _⟩
          case round =>
            obtain ⟨j, hj, rfl, hq⟩ := hrel
            have HQ := Lib.hid hq
            clear hq
            by_cases hlt : j < 8
            · have hrow := (HQ.out.block _ HZB.out).trans HCB.out
              have HC := fun i => cell_of_row _ _ i _ _ _ hrow
              clear hrow
              match j, hlt with
              | 0, _ =>
                have c0 : wr.cell? ⟨wo.heap.size + 1, 0, none⟩ = some (.int .u8 1) := (HC 0).trans rfl
                have c1 : wr.cell? ⟨wo.heap.size + 1, 1, none⟩ = some (.int .u16 (A.toNat : Int)) := (HC 1).trans rfl
                have c2 : wr.cell? ⟨wo.heap.size + 1, 2, none⟩ = some (.int .u16 (k : Int)) := (HC 2).trans rfl
                have c3 : wr.cell? ⟨wo.heap.size + 1, 3, none⟩ = some (.int .u16 0) := (HC 3).trans rfl
                have c4 : wr.cell? ⟨wo.heap.size + 1, 4, none⟩ = some (.slice none 0 0) := (HC 4).trans rfl
                have c5 : wr.cell? ⟨wo.heap.size + 1, 5, none⟩ = some (.slice none 0 0) := (HC 5).trans rfl
                have c6 : wr.cell? ⟨wo.heap.size + 1, 6, none⟩ = some (.int .i64 2000) := (HC 6).trans rfl
                clear HC
                by_cases g1 : 1 ≤ k
                · have s1 : decide ((1 : Int) ≤ (k : Int)) = true := by simp; omega
                  by_cases g2 : k ≤ 2000
                  · have s2 : decide ((k : Int) ≤ 2000) = true := by simp; omega
                    skip
                    go_wp2_with fail
                    refine (Right_at _ ⟨1, A, K, 0, [], []⟩ none 0 none 0 _ (by simp only [askV, HK.out]; rfl) (by simp; try omega) (by simp; try omega) (z := true) (by rw [(lim_plain (c := 1) (most := 2000) rfl (by omega) A K)]; simp; try (have := HK0.out; omega))).mono ?_
                    rintro e w9 ⟨rfl, hb9⟩
                    have HB9 := Lib.hid (says_on HQ.out hb9)
                    have c17 : w9.cell? ⟨wr.heap.size, 6, none⟩ = some (.int .i64 2000) := (hb9.cell (p := ⟨wr.heap.size, 6, none⟩) (by simp)).trans (World.cell?_alloc_new _ _ _ 6)
                    clear hb9 c0 c1 c2 c3 c4 c5 c6
                    go_wp2_with fail
                    go_roundw
                    case rel => exact ⟨1, by omega, rfl, HB9.out⟩
                    case measure => simp [intOf]
                  · have s2 : decide ((k : Int) ≤ 2000) = false := by simp; omega
                    skip
                    go_wp2_with fail
                    refine (Right_at _ ⟨1, A, K, 0, [], []⟩ none 0 none 0 _ (by simp only [askV, HK.out]; rfl) (by simp; try omega) (by simp; try omega) (z := false) (by rw [(lim_plain (c := 1) (most := 2000) rfl (by omega) A K)]; simp; try (have := HK0.out; omega))).mono ?_
                    rintro e w9 ⟨rfl, hb9⟩
                    have HB9 := Lib.hid (says_on HQ.out hb9)
                    have c17 : w9.cell? ⟨wr.heap.size, 6, none⟩ = some (.int .i64 2000) := (hb9.cell (p := ⟨wr.heap.size, 6, none⟩) (by simp)).trans (World.cell?_alloc_new _ _ _ 6)
                    clear hb9 c0 c1 c2 c3 c4 c5 c6
                    go_wp2_with fail
                    go_roundw
                    case rel => exact ⟨1, by omega, rfl, HB9.out⟩
                    case measure => simp [intOf]
                · have s1 : decide ((1 : Int) ≤ (k : Int)) = false := by simp; omega
                  omega
              | 1, _ =>
                have c0 : wr.cell? ⟨wo.heap.size + 1, 7, none⟩ = some (.int .u8 2) := (HC 7).trans rfl
                have c1 : wr.cell? ⟨wo.heap.size + 1, 8, none⟩ = some (.int .u16 (A.toNat : Int)) := (HC 8).trans rfl
                have c2 : wr.cell? ⟨wo.heap.size + 1, 9, none⟩ = some (.int .u16 (k : Int)) := (HC 9).trans rfl
                have c3 : wr.cell? ⟨wo.heap.size + 1, 10, none⟩ = some (.int .u16 0) := (HC 10).trans rfl
                have c4 : wr.cell? ⟨wo.heap.size + 1, 11, none⟩ = some (.slice none 0 0) := (HC 11).trans rfl
                have c5 : wr.cell? ⟨wo.heap.size + 1, 12, none⟩ = some (.slice none 0 0) := (HC 12).trans rfl
                have c6 : wr.cell? ⟨wo.heap.size + 1, 13, none⟩ = some (.int .i64 2000) := (HC 13).trans rfl
                clear HC
                by_cases g1 : 1 ≤ k
                · have s1 : decide ((1 : Int) ≤ (k : Int)) = true := by simp; omega
                  by_cases g2 : k ≤ 2000
                  · have s2 : decide ((k : Int) ≤ 2000) = true := by simp; omega
                    skip
                    go_wp2_with fail
                    refine (Right_at _ ⟨2, A, K, 0, [], []⟩ none 0 none 0 _ (by simp only [askV, HK.out]; rfl) (by simp; try omega) (by simp; try omega) (z := true) (by rw [(lim_plain (c := 2) (most := 2000) rfl (by omega) A K)]; simp; try (have := HK0.out; omega))).mono ?_
                    rintro e w9 ⟨rfl, hb9⟩
                    have HB9 := Lib.hid (says_on HQ.out hb9)
                    have c17 : w9.cell? ⟨wr.heap.size, 6, none⟩ = some (.int .i64 2000) := (hb9.cell (p := ⟨wr.heap.size, 6, none⟩) (by simp)).trans (World.cell?_alloc_new _ _ _ 6)
                    clear hb9 c0 c1 c2 c3 c4 c5 c6
                    go_wp2_with fail
                    go_roundw
                    case rel => exact ⟨2, by omega, rfl, HB9.out⟩
                    case measure => simp [intOf]
                  · have s2 : decide ((k : Int) ≤ 2000) = false := by simp; omega
                    skip
                    go_wp2_with fail
                    refine (Right_at _ ⟨2, A, K, 0, [], []⟩ none 0 none 0 _ (by simp only [askV, HK.out]; rfl) (by simp; try omega) (by simp; try omega) (z := false) (by rw [(lim_plain (c := 2) (most := 2000) rfl (by omega) A K)]; simp; try (have := HK0.out; omega))).mono ?_
                    rintro e w9 ⟨rfl, hb9⟩
                    have HB9 := Lib.hid (says_on HQ.out hb9)
                    have c17 : w9.cell? ⟨wr.heap.size, 6, none⟩ = some (.int .i64 2000) := (hb9.cell (p := ⟨wr.heap.size, 6, none⟩) (by simp)).trans (World.cell?_alloc_new _ _ _ 6)
                    clear hb9 c0 c1 c2 c3 c4 c5 c6
                    go_wp2_with fail
                    go_roundw
                    case rel => exact ⟨2, by omega, rfl, HB9.out⟩
                    case measure => simp [intOf]
                · have s1 : decide ((1 : Int) ≤ (k : Int)) = false := by simp; omega
                  omega
              | 2, _ =>
                have c0 : wr.cell? ⟨wo.heap.size + 1, 14, none⟩ = some (.int .u8 3) := (HC 14).trans rfl
                have c1 : wr.cell? ⟨wo.heap.size + 1, 15, none⟩ = some (.int .u16 (A.toNat : Int)) := (HC 15).trans rfl
                have c2 : wr.cell? ⟨wo.heap.size + 1, 16, none⟩ = some (.int .u16 (k : Int)) := (HC 16).trans rfl
                have c3 : wr.cell? ⟨wo.heap.size + 1, 17, none⟩ = some (.int .u16 0) := (HC 17).trans rfl
                have c4 : wr.cell? ⟨wo.heap.size + 1, 18, none⟩ = some (.slice none 0 0) := (HC 18).trans rfl
                have c5 : wr.cell? ⟨wo.heap.size + 1, 19, none⟩ = some (.slice none 0 0) := (HC 19).trans rfl
                have c6 : wr.cell? ⟨wo.heap.size + 1, 20, none⟩ = some (.int .i64 125) := (HC 20).trans rfl
                clear HC
                by_cases g1 : 1 ≤ k
                · have s1 : decide ((1 : Int) ≤ (k : Int)) = true := by simp; omega
                  by_cases g2 : k ≤ 125
                  · have s2 : decide ((k : Int) ≤ 125) = true := by simp; omega
                    omega
                  · have s2 : decide ((k : Int) ≤ 125) = false := by simp; omega
                    skip
                    go_wp2_with fail
                    refine (Right_at _ ⟨3, A, K, 0, [], []⟩ none 0 none 0 _ (by simp only [askV, HK.out]; rfl) (by simp; try omega) (by simp; try omega) (z := false) (by rw [(lim_plain (c := 3) (most := 125) rfl (by omega) A K)]; simp; try (have := HK0.out; omega))).mono ?_
                    rintro e w9 ⟨rfl, hb9⟩
                    have HB9 := Lib.hid (says_on HQ.out hb9)
                    have c17 : w9.cell? ⟨wr.heap.size, 6, none⟩ = some (.int .i64 125) := (hb9.cell (p := ⟨wr.heap.size, 6, none⟩) (by simp)).trans (World.cell?_alloc_new _ _ _ 6)
                    clear hb9 c0 c1 c2 c3 c4 c5 c6
                    go_wp2_with fail
                    go_roundw
                    case rel => exact ⟨3, by omega, rfl, HB9.out⟩
                    case measure => simp [intOf]
                · have s1 : decide ((1 : Int) ≤ (k : Int)) = false := by simp; omega
                  omega
              | 3, _ =>
                have c0 : wr.cell? ⟨wo.heap.size + 1, 21, none⟩ = some (.int .u8 4) := (HC 21).trans rfl
                have c1 : wr.cell? ⟨wo.heap.size + 1, 22, none⟩ = some (.int .u16 (A.toNat : Int)) := (HC 22).trans rfl
                have c2 : wr.cell? ⟨wo.heap.size + 1, 23, none⟩ = some (.int .u16 (k : Int)) := (HC 23).trans rfl
                have c3 : wr.cell? ⟨wo.heap.size + 1, 24, none⟩ = some (.int .u16 0) := (HC 24).trans rfl
                have c4 : wr.cell? ⟨wo.heap.size + 1, 25, none⟩ = some (.slice none 0 0) := (HC 25).trans rfl
                have c5 : wr.cell? ⟨wo.heap.size + 1, 26, none⟩ = some (.slice none 0 0) := (HC 26).trans rfl
                have c6 : wr.cell? ⟨wo.heap.size + 1, 27, none⟩ = some (.int .i64 125) := (HC 27).trans rfl
                clear HC
                by_cases g1 : 1 ≤ k
                · have s1 : decide ((1 : Int) ≤ (k : Int)) = true := by simp; omega
                  by_cases g2 : k ≤ 125
                  · have s2 : decide ((k : Int) ≤ 125) = true := by simp; omega
                    omega
                  · have s2 : decide ((k : Int) ≤ 125) = false := by simp; omega
                    skip
                    go_wp2_with fail
                    refine (Right_at _ ⟨4, A, K, 0, [], []⟩ none 0 none 0 _ (by simp only [askV, HK.out]; rfl) (by simp; try omega) (by simp; try omega) (z := false) (by rw [(lim_plain (c := 4) (most := 125) rfl (by omega) A K)]; simp; try (have := HK0.out; omega))).mono ?_
                    rintro e w9 ⟨rfl, hb9⟩
                    have HB9 := Lib.hid (says_on HQ.out hb9)
                    have c17 : w9.cell? ⟨wr.heap.size, 6, none⟩ = some (.int .i64 125) := (hb9.cell (p := ⟨wr.heap.size, 6, none⟩) (by simp)).trans (World.cell?_alloc_new _ _ _ 6)
                    clear hb9 c0 c1 c2 c3 c4 c5 c6
                    go_wp2_with fail
                    go_roundw
                    case rel => exact ⟨4, by omega, rfl, HB9.out⟩
                    case measure => simp [intOf]
                · have s1 : decide ((1 : Int) ≤ (k : Int)) = false := by simp; omega
                  omega
              | 4, _ =>
                have c0 : wr.cell? ⟨wo.heap.size + 1, 28, none⟩ = some (.int .u8 15) := (HC 28).trans rfl
                have c1 : wr.cell? ⟨wo.heap.size + 1, 29, none⟩ = some (.int .u16 (A.toNat : Int)) := (HC 29).trans rfl
                have c2 : wr.cell? ⟨wo.heap.size + 1, 30, none⟩ = some (.int .u16 (k : Int)) := (HC 30).trans rfl
                have c3 : wr.cell? ⟨wo.heap.size + 1, 31, none⟩ = some (.int .u16 0) := (HC 31).trans rfl
                have c4 : wr.cell? ⟨wo.heap.size + 1, 32, none⟩ = some (.slice none 0 0) := (HC 32).trans rfl
                have c5 : wr.cell? ⟨wo.heap.size + 1, 33, none⟩ = some (.slice (some ⟨w.heap.size + 1, 0, none⟩) k k) := (HC 33).trans rfl
                have c6 : wr.cell? ⟨wo.heap.size + 1, 34, none⟩ = some (.int .i64 1968) := (HC 34).trans rfl
                clear HC
                by_cases g1 : 1 ≤ k
                · have s1 : decide ((1 : Int) ≤ (k : Int)) = true := by simp; omega
                  by_cases g2 : k ≤ 1968
                  · have s2 : decide ((k : Int) ≤ 1968) = true := by simp; omega
                    skip
                    go_wp2_with fail
                    refine (Right_at _ ⟨15, A, K, 0, [], List.replicate k false⟩ none 0 (some ⟨w.heap.size + 1, 0, none⟩) k _ (by simp only [askV, HK.out, List.length_replicate]; rfl) (by simp; try omega) (by simp; try omega) (z := true) (by rw [(lim_bits A K (List.replicate k false) (by simpa using HK0.out.symm))]; simp; try (have := HK0.out; omega))).mono ?_
                    rintro e w9 ⟨rfl, hb9⟩
                    have HB9 := Lib.hid (says_on HQ.out hb9)
                    have c17 : w9.cell? ⟨wr.heap.size, 6, none⟩ = some (.int .i64 1968) := (hb9.cell (p := ⟨wr.heap.size, 6, none⟩) (by simp)).trans (World.cell?_alloc_new _ _ _ 6)
                    clear hb9 c0 c1 c2 c3 c4 c5 c6
                    go_wp2_with fail
                    go_roundw
                    case rel => exact ⟨5, by omega, rfl, HB9.out⟩
                    case measure => simp [intOf]
                  · have s2 : decide ((k : Int) ≤ 1968) = false := by simp; omega
                    skip
                    go_wp2_with fail
                    refine (Right_at _ ⟨15, A, K, 0, [], List.replicate k false⟩ none 0 (some ⟨w.heap.size + 1, 0, none⟩) k _ (by simp only [askV, HK.out, List.length_replicate]; rfl) (by simp; try omega) (by simp; try omega) (z := false) (by rw [(lim_bits A K (List.replicate k false) (by simpa using HK0.out.symm))]; simp; try (have := HK0.out; omega))).mono ?_
                    rintro e w9 ⟨rfl, hb9⟩
                    have HB9 := Lib.hid (says_on HQ.out hb9)
                    have c17 : w9.cell? ⟨wr.heap.size, 6, none⟩ = some (.int .i64 1968) := (hb9.cell (p := ⟨wr.heap.size, 6, none⟩) (by simp)).trans (World.cell?_alloc_new _ _ _ 6)
                    clear hb9 c0 c1 c2 c3 c4 c5 c6
                    go_wp2_with fail
                    go_roundw
                    case rel => exact ⟨5, by omega, rfl, HB9.out⟩
                    case measure => simp [intOf]
                · have s1 : decide ((1 : Int) ≤ (k : Int)) = false := by simp; omega
                  omega
              | 5, _ =>
                have c0 : wr.cell? ⟨wo.heap.size + 1, 35, none⟩ = some (.int .u8 16) := (HC 35).trans rfl
                have c1 : wr.cell? ⟨wo.heap.size + 1, 36, none⟩ = some (.int .u16 (A.toNat : Int)) := (HC 36).trans rfl
                have c2 : wr.cell? ⟨wo.heap.size + 1, 37, none⟩ = some (.int .u16 (k : Int)) := (HC 37).trans rfl
                have c3 : wr.cell? ⟨wo.heap.size + 1, 38, none⟩ = some (.int .u16 0) := (HC 38).trans rfl
                have c4 : wr.cell? ⟨wo.heap.size + 1, 39, none⟩ = some (.slice (some ⟨w.heap.size, 0, none⟩) k k) := (HC 39).trans rfl
                have c5 : wr.cell? ⟨wo.heap.size + 1, 40, none⟩ = some (.slice none 0 0) := (HC 40).trans rfl
                have c6 : wr.cell? ⟨wo.heap.size + 1, 41, none⟩ = some (.int .i64 123) := (HC 41).trans rfl
                clear HC
                by_cases g1 : 1 ≤ k
                · have s1 : decide ((1 : Int) ≤ (k : Int)) = true := by simp; omega
                  by_cases g2 : k ≤ 123
                  · have s2 : decide ((k : Int) ≤ 123) = true := by simp; omega
                    omega
                  · have s2 : decide ((k : Int) ≤ 123) = false := by simp; omega
                    skip
                    go_wp2_with fail
                    refine (Right_at _ ⟨16, A, K, 0, List.replicate k 0, []⟩ (some ⟨w.heap.size, 0, none⟩) k none 0 _ (by simp only [askV, HK.out, List.length_replicate]; rfl) (by simp; try omega) (by simp; try omega) (z := false) (by rw [(lim_words A K (List.replicate k 0) (by simpa using HK0.out.symm))]; simp; try (have := HK0.out; omega))).mono ?_
                    rintro e w9 ⟨rfl, hb9⟩
                    have HB9 := Lib.hid (says_on HQ.out hb9)
                    have c17 : w9.cell? ⟨wr.heap.size, 6, none⟩ = some (.int .i64 123) := (hb9.cell (p := ⟨wr.heap.size, 6, none⟩) (by simp)).trans (World.cell?_alloc_new _ _ _ 6)
                    clear hb9 c0 c1 c2 c3 c4 c5 c6
                    go_wp2_with fail
                    go_roundw
                    case rel => exact ⟨6, by omega, rfl, HB9.out⟩
                    case measure => simp [intOf]
                · have s1 : decide ((1 : Int) ≤ (k : Int)) = false := by simp; omega
                  omega
              | 6, _ =>
                have c0 : wr.cell? ⟨wo.heap.size + 1, 42, none⟩ = some (.int .u8 23) := (HC 42).trans rfl
                have c1 : wr.cell? ⟨wo.heap.size + 1, 43, none⟩ = some (.int .u16 (A.toNat : Int)) := (HC 43).trans rfl
                have c2 : wr.cell? ⟨wo.heap.size + 1, 44, none⟩ = some (.int .u16 (k : Int)) := (HC 44).trans rfl
                have c3 : wr.cell? ⟨wo.heap.size + 1, 45, none⟩ = some (.int .u16 (T.toNat : Int)) := (HC 45).trans rfl
                have c4 : wr.cell? ⟨wo.heap.size + 1, 46, none⟩ = some (.slice (some ⟨wo.heap.size, 0, none⟩) 1 1) := (HC 46).trans rfl
                have c5 : wr.cell? ⟨wo.heap.size + 1, 47, none⟩ = some (.slice none 0 0) := (HC 47).trans rfl
                have c6 : wr.cell? ⟨wo.heap.size + 1, 48, none⟩ = some (.int .i64 125) := (HC 48).trans rfl
                clear HC
                by_cases g1 : 1 ≤ k
                · have s1 : decide ((1 : Int) ≤ (k : Int)) = true := by simp; omega
                  by_cases g2 : k ≤ 125
                  · have s2 : decide ((k : Int) ≤ 125) = true := by simp; omega
                    omega
                  · have s2 : decide ((k : Int) ≤ 125) = false := by simp; omega
                    skip
                    go_wp2_with fail
                    refine (Right_at _ ⟨23, A, K, T, [X], []⟩ (some ⟨wo.heap.size, 0, none⟩) 1 none 0 _ (by simp only [askV, HK.out]; rfl) (by simp; try omega) (by simp; try omega) (z := false) (by rw [(lim_many A K T X)]; simp; try (have := HK0.out; omega))).mono ?_
                    rintro e w9 ⟨rfl, hb9⟩
                    have HB9 := Lib.hid (says_on HQ.out hb9)
                    have c17 : w9.cell? ⟨wr.heap.size, 6, none⟩ = some (.int .i64 125) := (hb9.cell (p := ⟨wr.heap.size, 6, none⟩) (by simp)).trans (World.cell?_alloc_new _ _ _ 6)
                    clear hb9 c0 c1 c2 c3 c4 c5 c6
                    go_wp2_with fail
                    go_roundw
                    case rel => exact ⟨7, by omega, rfl, HB9.out⟩
                    case measure => simp [intOf]
                · have s1 : decide ((1 : Int) ≤ (k : Int)) = false := by simp; omega
                  omega
              | 7, _ =>
                have c0 : wr.cell? ⟨wo.heap.size + 1, 49, none⟩ = some (.int .u8 23) := (HC 49).trans rfl
                have c1 : wr.cell? ⟨wo.heap.size + 1, 50, none⟩ = some (.int .u16 (A.toNat : Int)) := (HC 50).trans rfl
                have c2 : wr.cell? ⟨wo.heap.size + 1, 51, none⟩ = some (.int .u16 1) := (HC 51).trans rfl
                have c3 : wr.cell? ⟨wo.heap.size + 1, 52, none⟩ = some (.int .u16 (T.toNat : Int)) := (HC 52).trans rfl
                have c4 : wr.cell? ⟨wo.heap.size + 1, 53, none⟩ = some (.slice (some ⟨w.heap.size, 0, none⟩) k k) := (HC 53).trans rfl
                have c5 : wr.cell? ⟨wo.heap.size + 1, 54, none⟩ = some (.slice none 0 0) := (HC 54).trans rfl
                have c6 : wr.cell? ⟨wo.heap.size + 1, 55, none⟩ = some (.int .i64 121) := (HC 55).trans rfl
                clear HC
                by_cases g1 : 1 ≤ k
                · have s1 : decide ((1 : Int) ≤ (k : Int)) = true := by simp; omega
                  by_cases g2 : k ≤ 121
                  · have s2 : decide ((k : Int) ≤ 121) = true := by simp; omega
                    omega
                  · have s2 : decide ((k : Int) ≤ 121) = false := by simp; omega
                    skip
                    go_wp2_with fail
                    refine (Right_at _ ⟨23, A, 1, T, List.replicate k 0, []⟩ (some ⟨w.heap.size, 0, none⟩) k none 0 _ (by simp only [askV, List.length_replicate]; rfl) (by simp; try omega) (by simp; try omega) (z := false) (by rw [(lim_to A T (List.replicate k 0))]; simp; try (have := HK0.out; omega))).mono ?_
                    rintro e w9 ⟨rfl, hb9⟩
                    have HB9 := Lib.hid (says_on HQ.out hb9)
                    have c17 : w9.cell? ⟨wr.heap.size, 6, none⟩ = some (.int .i64 121) := (hb9.cell (p := ⟨wr.heap.size, 6, none⟩) (by simp)).trans (World.cell?_alloc_new _ _ _ 6)
                    clear hb9 c0 c1 c2 c3 c4 c5 c6
                    go_wp2_with fail
                    go_roundw
                    case rel => exact ⟨8, by omega, rfl, HB9.out⟩
                    case measure => simp [intOf]
                · have s1 : decide ((1 : Int) ≤ (k : Int)) = false := by simp; omega
                  omega
            · obtain rfl : j = 8 := by omega
              have ht2 : decide (((8 : Nat) : Int) < 8) = false := by decide
              have HE := Lib.hid (HWB.out.trans (HQ.out.mono HWB.out.size))
              clear HQ HCB HWB
              by_cases k1 : k = 1
              · have s1 : ((k : Int) == 1) = true := by simp; omega
                have HK1 := Lib.hid k1
                clear k1
                obtain ⟨Q1, hQ1⟩ : ∃ Q1 : UInt16, Q1.toNat = 200 + 1 := ⟨UInt16.ofNat (200 + 1), by simp; try omega⟩
                have HQ1 : Hid (b16 Q1 = .int .u16 (201)) := Lib.hid (by unfold b16; rw [hQ1]; rfl)
                have HQN := Lib.hid hQ1
                clear hQ1
                go_wp2_with fail
                refine (Right_at _ ⟨5, A, 0, 0, [], List.replicate k false⟩ none 0 (some ⟨w.heap.size + 1, 0, none⟩) k _ (by simp only [askV, List.length_replicate]; rfl) (by simp; try omega) (by simp; try omega) (z := true) (by rw [lim_bit]; simp; try (have := HK1.out; omega))).mono ?_
                rintro e w9 ⟨rfl, hb9⟩
                have H9 := Lib.hid (HE.out.trans (hb9.mono HE.out.size))
                clear hb9 HE
                go_wp2_with fail
                refine (Right_at _ ⟨6, A, 0, 0, List.replicate k 0, []⟩ (some ⟨w.heap.size, 0, none⟩) k none 0 _ (by simp only [askV, List.length_replicate]; rfl) (by simp; try omega) (by simp; try omega) (z := true) (by rw [lim_word]; simp; try (have := HK1.out; omega))).mono ?_
                rintro e w10 ⟨rfl, hb9⟩
                have H10 := Lib.hid (H9.out.trans (hb9.mono H9.out.size))
                clear hb9 H9
                go_wp2_with fail
                refine (Right_at _ ⟨16, A, Q1, 0, List.replicate 200 0, []⟩ (some ⟨w.heap.size, 0, none⟩) k none 0 _ (by simp only [askV, HQ1.out, List.length_replicate]; rfl) (by simp; try omega) (by simp; try omega) (z := false) (by exact lim_not A Q1 _ (by have := HQN.out; simp; omega))).mono ?_
                rintro e w11 ⟨rfl, hb9⟩
                have H11 := Lib.hid (H10.out.trans (hb9.mono H10.out.size))
                clear hb9 H10
                go_wp2_with fail
                refine (Right_at _ ⟨3, 0, 1, 1, [], []⟩ none 0 none 0 _ rfl (by simp; try omega) (by simp; try omega) (z := false) (by exact lim_to1)).mono ?_
                rintro e w12 ⟨rfl, hb9⟩
                have H12 := Lib.hid (H11.out.trans (hb9.mono H11.out.size))
                clear hb9 H11
                go_wp2_with fail
                refine (Right_at _ ⟨6, 0, 1, 0, [X], []⟩ (some ⟨w12.heap.size, 0, none⟩) 1 none 0 _ rfl (by simp; try omega) (by simp; try omega) (z := false) (by exact lim_many1 X)).mono ?_
                rintro e w13 ⟨rfl, hb9⟩
                have H13 := Lib.hid (says_on H12.out hb9)
                clear hb9 H12
                go_wp2_with fail
                refine (awake_any _).mono ?_
                rintro e w14 ⟨rfl, hb9⟩
                have H14 := Lib.hid (H13.out.trans (hb9.mono H13.out.size))
                go_wp2_with fail
                go_ret
                exact Says.mk H14.out
              · have s1 : ((k : Int) == 1) = false := by simp; omega
                have HK1 := Lib.hid k1
                clear k1
                obtain ⟨Q1, hQ1⟩ : ∃ Q1 : UInt16, Q1.toNat = 200 + 1 := ⟨UInt16.ofNat (200 + 1), by simp; try omega⟩
                have HQ1 : Hid (b16 Q1 = .int .u16 (201)) := Lib.hid (by unfold b16; rw [hQ1]; rfl)
                have HQN := Lib.hid hQ1
                clear hQ1
                go_wp2_with fail
                refine (Right_at _ ⟨5, A, 0, 0, [], List.replicate k false⟩ none 0 (some ⟨w.heap.size + 1, 0, none⟩) k _ (by simp only [askV, List.length_replicate]; rfl) (by simp; try omega) (by simp; try omega) (z := false) (by rw [lim_bit]; simp; try (have := HK1.out; omega))).mono ?_
                rintro e w9 ⟨rfl, hb9⟩
                have H9 := Lib.hid (HE.out.trans (hb9.mono HE.out.size))
                clear hb9 HE
                go_wp2_with fail
                refine (Right_at _ ⟨6, A, 0, 0, List.replicate k 0, []⟩ (some ⟨w.heap.size, 0, none⟩) k none 0 _ (by simp only [askV, List.length_replicate]; rfl) (by simp; try omega) (by simp; try omega) (z := false) (by rw [lim_word]; simp; try (have := HK1.out; omega))).mono ?_
                rintro e w10 ⟨rfl, hb9⟩
                have H10 := Lib.hid (H9.out.trans (hb9.mono H9.out.size))
                clear hb9 H9
                go_wp2_with fail
                refine (Right_at _ ⟨16, A, Q1, 0, List.replicate 200 0, []⟩ (some ⟨w.heap.size, 0, none⟩) k none 0 _ (by simp only [askV, HQ1.out, List.length_replicate]; rfl) (by simp; try omega) (by simp; try omega) (z := false) (by exact lim_not A Q1 _ (by have := HQN.out; simp; omega))).mono ?_
                rintro e w11 ⟨rfl, hb9⟩
                have H11 := Lib.hid (H10.out.trans (hb9.mono H10.out.size))
                clear hb9 H10
                go_wp2_with fail
                refine (Right_at _ ⟨3, 0, 1, 1, [], []⟩ none 0 none 0 _ rfl (by simp; try omega) (by simp; try omega) (z := false) (by exact lim_to1)).mono ?_
                rintro e w12 ⟨rfl, hb9⟩
                have H12 := Lib.hid (H11.out.trans (hb9.mono H11.out.size))
                clear hb9 H11
                go_wp2_with fail
                refine (Right_at _ ⟨6, 0, 1, 0, [X], []⟩ (some ⟨w12.heap.size, 0, none⟩) 1 none 0 _ rfl (by simp; try omega) (by simp; try omega) (z := false) (by exact lim_many1 X)).mono ?_
                rintro e w13 ⟨rfl, hb9⟩
                have H13 := Lib.hid (says_on H12.out hb9)
                clear hb9 H12
                go_wp2_with fail
                refine (awake_any _).mono ?_
                rintro e w14 ⟨rfl, hb9⟩
                have H14 := Lib.hid (H13.out.trans (hb9.mono H13.out.size))
                go_wp2_with fail
                go_ret
                exact Says.mk H14.out
theorem AskLimits_walk (x0 x1 m : Nat) (on : Bool) (x4 : Nat) (w : World) (h0 : x0 < 65536) (h1 : x1 < 65536) (h3 : m < 65536) (h4 : x4 < 65536) :
    Calls Try.prog 4 #[.int .u16 x0, .int .u16 x1, .int .u16 m, .bool on, .int .u16 x4] w (Says (.bool true) w) := by
  have h := AskLimits_u (UInt16.ofNat x0) (UInt16.ofNat x1) (UInt16.ofNat x4) m on w h3
  have e : ∀ x : Nat, x < 65536 → b16 (UInt16.ofNat x) = .int .u16 (x : Int) := fun x hx => by unfold b16; congr 1; simp; omega
  rwa [e x0 h0, e x1 h1, e x4 h4] at h
end Go.Proofs.Ytiecncnmmecjcaa.AskW
