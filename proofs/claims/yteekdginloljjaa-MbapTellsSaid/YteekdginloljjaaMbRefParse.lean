/- The document's own answer: which frame bytes are. -/
import Derived.Test.YteekdginloljjaaMbRefPack
import Derived.Test.YteekdginloljjaaMbLawWrong
import Derived.Deep.RegionHeld3
import Derived.Deep.RegionLaw
open Go.RowKit
namespace Go.Proofs.Yteekdginloljjaa.MbW
open MbM Mem

def theFr (b : List UInt8) : Fr := ⟨txN b, b.getD 6 0, b.drop 7⟩
theorem parse_long {b : List UInt8} : (8 ≤ b.length ∧ longI b = (b.length : Int) ∧ parseN b = some (theFr b)) ∨ ((b.length < 8 ∨ longI b ≠ (b.length : Int)) ∧ parseN b = none) := by
  cases hf : first b with
  | none =>
    refine .inr ⟨?_, parse_no_first hf⟩
    rcases Nat.lt_or_ge b.length 8 with h | h
    · exact .inl h
    · refine .inr fun he => ?_
      unfold longI at he
      split at he
      · next hb =>
        rw [if_neg (by omega)] at he
        have h4 := ((begun_iff b).1 hb).2.2.1
        have hl : lenN b = hd b 5 := by unfold lenN; rw [h4]; omega
        unfold first at hf
        rw [if_pos ⟨by omega, hb, by omega⟩] at hf
        cases hf
      · omega
  | some q =>
    obtain ⟨x, r⟩ := q
    have hp := parse_rest hf
    unfold first at hf
    split at hf
    · next hc =>
      obtain ⟨h7, hb, hl⟩ := hc
      injection hf with hf
      injection hf with hx hr
      obtain ⟨h2, h3, h4, h5, h6⟩ := (begun_iff b).1 hb
      have hL : lenN b = hd b 5 := by unfold lenN; rw [h4]; omega
      have hI : longI b = 6 + (hd b 5 : Int) := by unfold longI; rw [if_pos hb, if_neg (by omega)]
      have hrl : r.length = b.length - (6 + lenN b) := by rw [← hr, List.length_drop]
      by_cases h0 : r.length = 0
      · left
        rw [if_pos h0] at hp
        refine ⟨by omega, by rw [hI]; omega, ?_⟩
        rw [hp, ← hx]
        unfold theFr
        rw [List.take_of_length_le (by omega)]
      · right
        rw [if_neg h0] at hp
        exact ⟨.inr (by rw [hI]; omega), hp⟩
    · cases hf
set_option maxRecDepth 100000 in
set_option maxHeartbeats 2000000 in
theorem rParse_no (a : Option Addr) (n c : Nat) (b : List UInt8) (w : World) (hl : Sl b8 w w.heap.size a n c b) (hP : parseN b = none) :
    Calls Try.prog 13 #[.slice a n c] w (NoParse w) := by
  have hB0 := fun o => (Below.refl w.heap.size w).alloc (Nat.le_refl _) o
  have hn := len_le hl
  have hlen := hl.len
  have hno : n < 8 ∨ (¬ n < 8 ∧ longI b ≠ (n : Int)) := by
    rcases parse_long (b := b) with ⟨_, _, h⟩ | ⟨h, _⟩
    · rw [h] at hP; cases hP
    · rw [hlen] at h; omega
  have HLG := Lib.hid (long_any a n c b w.heap.size (w.alloc (.cells zeroF 25)) (hl.alloc (Nat.le_refl _) _))
  have HRow : Hid ((w.alloc (.cells zeroF 25)).heap[w.heap.size]? = some (.cells zeroF 25 (0, 0))) := Lib.hid (heap_alloc_new w _)
  clear hl hP hlen
  rcases hno with h | ⟨h, h'⟩
  · have t1 : decide ((n : Int) < 8) = true := by simp; omega
    clear h HLG
    go_enter Try.func13, Try.ntmps13
    go_wp2_with (refine wpList_store_row rfl 25 (.tmp 2) (.tmp 16) rfl w.heap.size zeroF rfl rfl 25 zeroF HRow.out (by kernel_rfl) (by kernel_rfl) (by kernel_rfl) ?_)
    exact bodyPost_ret (results_cell_row_tmp rfl _ _ w.heap.size 25 _ (0, 0) _ rfl (setRow_heap _ _ _ _ _ _ HRow.out) Try.underlying25 rfl (by kernel_rfl) _ rfl) rfl ⟨rfl, below_setRow (hB0 _) (Nat.le_refl _) _⟩
  · have t1 : decide ((n : Int) < 8) = false := by simp; omega
    have t2 : ((longI b) != (n : Int)) = true := by simpa using h'
    clear h h'
    generalize longI b = k at *
    go_enter Try.func13, Try.ntmps13
    go_wp2_with fail
    refine HLG.out.mono ?_
    rintro e w1 ⟨rfl, rfl⟩
    go_wp2_with (refine wpList_store_row rfl 25 (.tmp 2) (.tmp 16) rfl w.heap.size zeroF rfl rfl 25 zeroF HRow.out (by kernel_rfl) (by kernel_rfl) (by kernel_rfl) ?_)
    exact bodyPost_ret (results_cell_row_tmp rfl _ _ w.heap.size 25 _ (0, 0) _ rfl (setRow_heap _ _ _ _ _ _ HRow.out) Try.underlying25 rfl (by kernel_rfl) _ rfl) rfl ⟨rfl, below_setRow (hB0 _) (Nat.le_refl _) _⟩
/-- Behind an append to the row that a field of an own box holds. -/
theorem box_after {w wr w5 : World} {gx bb o j : Nat} {v v5 a0 a1 : Value} {y : UInt8} {xs : List Value} {T1 T2 e : TypeId} {z : Array Value} {O : Obj} (hgz : gx < wr.heap.size) (hgw : w.heap.size < gx) (hbb : bb < w.heap.size) (ho : wr.ownsRow (gx + 1) e 1 v j xs) (hb : Below w.heap.size w wr)
    (hr : wr.heap[gx]? = some (.cells #[a0, a1, v] T1 (0, 0))) (hr2 : wr.heap[w.heap.size]? = some (.cells z T2 (0, 0))) (hc : wr.cell? ⟨bb, o, none⟩ = some (b8 y)) (hg : Grew (wr.drew.alloc O) v w5 v5) :
    w5.cell? ⟨bb, o, none⟩ = some (b8 y) ∧ w5.heap[gx]? = some (.cells #[a0, a1, v] T1 (0, 0)) ∧ w5.heap[w.heap.size]? = some (.cells z T2 (0, 0)) ∧ Below w.heap.size w w5 := by
  have hlo : ∀ k, v.ownBlock = some k → gx + 1 ≤ k := fun k hk => (ho.lt k hk).1
  have hblk : ∀ k, k ≤ gx → k < wr.heap.size → w5.heap[k]? = wr.heap[k]? := fun k hk hk2 =>
    (hg.grown.block k (by simp; omega) (fun h => by have := hlo k h.symm; omega)).trans (Below.heap_alloc wr.drew O k hk2)
  refine ⟨?_, (hblk gx (Nat.le_refl _) hgz).trans hr, (hblk w.heap.size (by omega) (by omega)).trans hr2, ?_⟩
  · rw [← hc]
    exact World.cell?_of_block (hblk bb (by omega) (by omega))
  · exact Grew.below ((below_drawn hb 1).alloc (by have := hb.size; exact this) O) hg (by simp; omega) (fun k hk => by have := hlo k hk; omega)
set_option maxRecDepth 100000 in
set_option maxHeartbeats 4000000 in
theorem rParse_yes (a : Option Addr) (n c : Nat) (b : List UInt8) (w : World) (hl : Sl b8 w w.heap.size a n c b) {x : Fr} (hP : parseN b = some x) :
    Calls Try.prog 13 #[.slice a n c] w (Parses x w) := by
  have hB0 := fun o => (Below.refl w.heap.size w).alloc (Nat.le_refl _) o
  have hn := len_le hl
  have hlen := hl.len
  obtain ⟨h8, hlg, rfl⟩ : 8 ≤ n ∧ longI b = (n : Int) ∧ x = theFr b := by
    rcases parse_long (b := b) with ⟨h1, h2, h⟩ | ⟨_, h⟩
    · rw [hP] at h; injection h with h; rw [hlen] at h1 h2; exact ⟨h1, h2, h⟩
    · rw [hP] at h; cases h
  have hn260 : n ≤ 260 := by
    have h := (parse_some hP).1.2
    have h2 := congrArg List.length (parse_some hP).2
    rw [packN_length] at h2
    omega
  obtain ⟨i0, hi, hz0, hz1, hz2⟩ := info_parts info8
  have hz2' : i0.bytes = 1 := hz2
  have HLG := Lib.hid (long_any a n c b w.heap.size (w.alloc (.cells zeroF 25)) (hl.alloc (Nat.le_refl _) _))
  rw [hlg] at HLG
  have HRow : Hid ((w.alloc (.cells zeroF 25)).heap[w.heap.size]? = some (.cells zeroF 25 (0, 0))) := Lib.hid (heap_alloc_new w _)
  obtain ⟨bb, off, rfl, hbb, hc⟩ := hl.cells (by omega)
  have hx0 := hc 0 _ (hd_of (by omega))
  have hx1 := hc 1 _ (hd_of (by omega))
  have hx6 := hc 6 _ (hd_of (by omega))
  rw [Nat.add_zero] at hx0
  have HTX : Hid (256 * (b.getD 0 0).toNat + (b.getD 1 0).toNat = (theFr b).tx.toNat) := by
    unfold Hid
    have h0 := hd_getD (b := b) (i := 0) (by omega)
    have h1 := hd_getD (b := b) (i := 1) (by omega)
    have := hd_lt b 0
    have := hd_lt b 1
    show _ = (txN b).toNat
    rw [← h0, ← h1]
    unfold txN
    simp; omega
  have HU : Hid (b.getD 6 0 = (theFr b).unit) := Lib.hid rfl
  have HPD : Hid ((theFr b).pdu = b.drop 7) := Lib.hid rfl
  generalize theFr b = x at *
  have HL := Lib.hid hl
  have y0 := (hB0 (.cells zeroF 25)).cell (p := ⟨bb, off, none⟩) hbb
  have y1 := (hB0 (.cells zeroF 25)).cell (p := ⟨bb, off + 1, none⟩) hbb
  have y6 := (hB0 (.cells zeroF 25)).cell (p := ⟨bb, off + 6, none⟩) hbb
  rw [hx0] at y0
  rw [hx1] at y1
  rw [hx6] at y6
  generalize b.getD 0 0 = x0 at *
  generalize b.getD 1 0 = x1 at *
  generalize b.getD 6 0 = x6 at *
  have hb0 := x0.toNat_lt
  have hb1 := x1.toNat_lt
  have t1 : decide ((n : Int) < 8) = false := by simp; omega
  have t2 : ((n : Int) != (n : Int)) = false := by simp
  have i0' : (0 : Int) < (n : Int) := by omega
  have i1' : (1 : Int) < (n : Int) := by omega
  have i6' : (6 : Int) < (n : Int) := by omega
  clear hl hP hlen hlg hc hx0 hx1 hx6
  go_enter Try.func13, Try.ntmps13
  go_wp2_with fail
  refine HLG.out.mono ?_
  rintro e w1 ⟨rfl, rfl⟩
  go_wp2_with fail
  have HB1 := Lib.hid (hB0 (.cells zeroF 25))
  have hW1 : w.heap.size < (w.alloc (.cells zeroF 25)).heap.size := by simp
  clear hB0 HLG
  generalize w.alloc (.cells zeroF 25) = W1 at *
  have hpos : 0 < n := by omega
  have hwr : IntKind.u16.wrap (IntKind.u16.wrap (256 * IntKind.u16.wrap (x0.toNat : Int)) + IntKind.u16.wrap (x1.toNat : Int)) = (x.tx.toNat : Int) := by
    have e := HTX.out
    have e0 : IntKind.u16.wrap (x0.toNat : Int) = (x0.toNat : Int) := IntWalk.u16_in _ (by omega)
    have e1 : IntKind.u16.wrap (256 * (x0.toNat : Int)) = 256 * (x0.toNat : Int) := IntWalk.u16_in _ (by omega)
    have e2 : IntKind.u16.wrap (x1.toNat : Int) = (x1.toNat : Int) := IntWalk.u16_in _ (by omega)
    rw [e0, e1, e2, IntWalk.u16_in _ (by omega)]
    omega
  have HWR := Lib.hid hwr
  clear hwr
  have hbs : bb < W1.heap.size := by omega
  have hbne : ¬ bb = W1.heap.size := by omega
  have z0 : W1.drew.cell? ⟨bb, off, none⟩ = some (b8 x0) := y0
  have z1 : W1.drew.cell? ⟨bb, off + 1, none⟩ = some (b8 x1) := y1
  have z6 : W1.drew.cell? ⟨bb, off + 6, none⟩ = some (b8 x6) := y6
  go_region_held3 (fun w' => w'.cell? ⟨bb, off, none⟩ = some (b8 x0) ∧ w'.cell? ⟨bb, off + 1, none⟩ = some (b8 x1) ∧ w'.cell? ⟨bb, off + 6, none⟩ = some (b8 x6))
    (first
      | with_reducible exact ⟨y0, y1, y6⟩
      | with_reducible exact ⟨z0, z1, z6⟩
      | go_keep)
    (fail)
  rename_i _ hHeld
  clear hHeld
  rw [HWR.out]
  have HS : Hid (∃ gx, gx = W1.heap.size ∧ (W1.alloc (.cells #[.int .u16 (x.tx.toNat : Int), .int .u8 (x6.toNat : Int), .slice none 0 0] 25)).drew.heap[gx]? = some (.cells #[.int .u16 (x.tx.toNat : Int), .int .u8 (x6.toNat : Int), .slice none 0 0] 25 (0, 0)) ∧
      (W1.alloc (.cells #[.int .u16 (x.tx.toNat : Int), .int .u8 (x6.toNat : Int), .slice none 0 0] 25)).drew.heap[w.heap.size]? = some (.cells zeroF 25 (0, 0)) ∧
      Below w.heap.size w (W1.alloc (.cells #[.int .u16 (x.tx.toNat : Int), .int .u8 (x6.toNat : Int), .slice none 0 0] 25)).drew) := Lib.hid
    ⟨_, rfl, heap_alloc_new W1 _, (Below.heap_alloc W1 _ _ hW1).trans HRow.out, below_drawn (HB1.out.alloc (by omega) _) 1⟩
  clear y0 y1 y6 z0 z1 z6 HWR
  generalize (W1.alloc (.cells #[.int .u16 (x.tx.toNat : Int), .int .u8 (x6.toNat : Int), .slice none 0 0] 25)).drew = W2 at *
  obtain ⟨gx, hgx, hs1, hs2, hs3⟩ := HS.out
  have hgw : w.heap.size < gx := by omega
  rw [← hgx]
  have HS2 := Lib.hid (And.intro hs1 (And.intro hs2 hs3))
  clear HS HB1 HRow hW1 hbs hbne hgx hs1 hs2 hs3
  go_wp2_with fail
  go_loopw [5] (fun i wr => ∃ (j : Nat) (v : Value), 7 + j ≤ n ∧ i = .int .i64 (7 + (j : Int)) ∧ wr.heap[gx]? = some (.cells #[.int .u16 (x.tx.toNat : Int), .int .u8 (x6.toNat : Int), v] 25 (0, 0)) ∧ wr.heap[w.heap.size]? = some (.cells zeroF 25 (0, 0)) ∧ wr.ownsRow (gx + 1) 5 1 v j (((b.drop 7).take j).map b8) ∧ Below w.heap.size w wr) (fun i _ => n - (intOf i).toNat)
  case atStart => exact ⟨0, .slice none 0 0, by omega, rfl, HS2.out.1, HS2.out.2.1, by simpa using World.ownsRow_nil _ _ _ _, HS2.out.2.2⟩
  case round =>
    obtain ⟨j, v, hj, rfl, hrow, hrow2, ho, hb⟩ := hrel
    have hq2 : wr.cell? ⟨gx, 2, none⟩ = some v := cell_of_row _ _ 2 _ _ _ hrow
    have HR := Lib.hid hrow
    have HR2 := Lib.hid hrow2
    have HO := Lib.hid ho
    have HB := Lib.hid hb
    have hgz := (Array.getElem?_eq_some_iff.1 hrow).1
    clear hrow hrow2 ho hb HS2
    by_cases hlt : 7 + j < n
    · have t3 : decide (7 + (j : Int) < (n : Int)) = true := by simp; omega
      obtain ⟨b2, o2, y, e1, _, hy, hcy⟩ := (HL.out.below HB.out (Nat.le_refl _)).at_ hlt
      injection e1 with e1
      injection e1 with e1 e2
      subst e1 e2
      have HY : Hid (((b.drop 7).take j).map b8 ++ [y].map b8 = ((b.drop 7).take (j + 1)).map b8) := Lib.hid (by
        rw [List.take_add_one, List.getElem?_drop, hy]; simp)
      have k1 : (0 : Int) ≤ 7 + (j : Int) := by omega
      have k2 : 7 + (j : Int) < (n : Int) := by omega
      have k3 : (7 + (j : Int)).toNat = 7 + j := by omega
      have hbg : ¬ bb = gx := by omega
      have hbg2 : ¬ gx = bb := by omega
      have hbs : bb < wr.heap.size := by omega
      have hbne : ¬ bb = wr.heap.size := by omega
      have hgne : ¬ gx = wr.heap.size := by omega
      clear hy
      have HOd := Lib.hid (show wr.drew.ownsRow (gx + 1) 5 1 v j (((b.drop 7).take j).map b8) from HO.out)
      have HSN := Lib.hid (Sl.new (f := b8) wr.drew #[b8 y] 5 (0, 0) [y] 1 rfl rfl (by omega))
      go_wp2_with fail
      go_region_law (first
          | ((refine step_append_any (f := b8) b8_one (by rfl) (.tmp 38) (.tmp 43) 23 (by rfl) (gx + 1) 5 i0 (.int .u8 0) 1 Try.underlying23 hi hz0 hz1 hz2' rfl v j _ (by rfl) (HOd.out.alloc (.cells #[b8 y] 5)) (some ⟨wr.drew.heap.size, 0, none⟩) 1 1 (by rfl) HSN.out (by unfold maxLen; omega) (by omega) (by simp; omega) ?_; intro v5 w5 hown5 hg5; rw [HY.out] at hown5; have HO5 := Lib.hid hown5; (have HP5 := Lib.hid (box_after hgz hgw hbb HO.out HB.out HR.out HR2.out hcy hg5)); have hq1 := HP5.out.1; (have hv2 := cell_of_row _ _ 2 _ _ _ HP5.out.2.1); (have hz := fun i => frozen_of_row _ _ i _ _ HP5.out.2.1); clear hown5 hg5; obtain ⟨a5, c5, rfl, -⟩ := Sl.of_own HO5.out)))
      all_goals
        go_wp2_with fail
        go_roundw
        case rel => exact ⟨j + 1, .slice a5 (j + 1) c5, by omega, by go_num, heap_setCell_same _ _ 2 _ _ _ HP5.out.2.1, (heap_setCell_other _ _ _ _ (by simp; omega)).trans HP5.out.2.2.1, ownsRow_setCell_below HO5.out (by simp) _, HP5.out.2.2.2.setCell (by simp; omega) _⟩
        case measure => simp [intOf]; omega
    · obtain rfl : n = 7 + j := by omega
      have t3 : decide (7 + (j : Int) < ((7 + j : Nat) : Int)) = false := by simp
      have t3' : decide (7 + (j : Int) < 7 + (j : Int)) = false := by simp
      have h := HO.out
      rw [List.take_of_length_le (by rw [List.length_drop, HL.out.len]; omega), ← HPD.out] at h
      have hlo := fun k hk => (h.lt k hk).1
      obtain ⟨ap, cp, rfl, hs⟩ := Sl.of_own h
      have hpl := hs.len
      have HE : Hid ((#[.int .u16 (x.tx.toNat : Int), .int .u8 (x6.toNat : Int), .slice ap j cp] : Array Value) = frC x ap cp) := Lib.hid (by
        have e : (b8 x.unit) = .int .u8 (x6.toNat : Int) := by rw [← HU.out]
        simp only [frC, e, hpl])
      have HS := Lib.hid (And.intro hs (fun y (hy : ap = some y) => hlo y.block (by rw [hy]; rfl)))
      have hv0 := cell_of_row _ _ 0 _ _ _ HR.out
      have hv1 := cell_of_row _ _ 1 _ _ _ HR.out
      have hv2 := cell_of_row _ _ 2 _ _ _ HR.out
      clear h hs hlo hpl HO
      go_wp2_with (refine wpList_store_row rfl 25 (.tmp 2) (.tmp 46) rfl w.heap.size #[.int .u16 (x.tx.toNat : Int), .int .u8 (x6.toNat : Int), .slice ap j cp] rfl rfl 25 zeroF HR2.out (by kernel_rfl) (by kernel_rfl) (by kernel_rfl) ?_)
      refine bodyPost_ret (v := .tuple #[frV x ap cp, .int .i64 0]) (results_cell_row_tmp rfl _ _ w.heap.size 25 _ (0, 0) _ rfl (by rw [← HE.out]; exact setRow_heap _ _ _ _ _ _ HR2.out) Try.underlying25 rfl (by kernel_rfl) _ rfl) rfl ?_
      have hpl := HS.out.1.len
      refine Parses.mk ?_ (below_setRow HB.out (Nat.le_refl _) _) (fun y hy => by have := HS.out.2 y hy; omega)
      rw [hpl]
      refine Sl.more (B := wr.heap.size) (sl_setRow HS.out.1 (fun y hy => by have := HS.out.2 y hy; omega) _) ?_
      simp [World.setRow]
end Go.Proofs.Yteekdginloljjaa.MbW
