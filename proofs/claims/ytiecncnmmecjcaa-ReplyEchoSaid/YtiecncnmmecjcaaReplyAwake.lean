/- The examples of the chapter on replies. -/
import Derived.Test.YtiecncnmmecjcaaReplyFill
open Go.RowKit
namespace Go.Proofs.Ytiecncnmmecjcaa.ReplyW
open AskM ReplyM AskW Mem

set_option maxRecDepth 100000 in
set_option maxHeartbeats 2000000 in
theorem rsaid_any (a : Rep) (aw : Option Addr) (cw : Nat) (ab : Option Addr) (cb : Nat) (b : Option Addr) (n c : Nat) (l : List UInt8) (w : World) (hA : RepAt w w.heap.size a aw cw ab cb) (hS : Sl b8 w w.heap.size b n c l) (hnw : a.words.length ≤ 1000000) (hnb : a.bits.length ≤ 1000000) (h : rbytesN a = some l) :
    Calls Try.prog 65 #[repV a aw cw ab cb, .slice b n c] w (Says (.bool true) w) := by
  have hp := rparse_bytes h
  obtain ⟨f1, x1, bs, ws, a1, m1⟩ := a
  have hBy := fun o => RBytes_any ⟨f1, x1, bs, ws, a1, m1⟩ aw cw ab cb (w.alloc o) ⟨(hA.words.alloc (Nat.le_refl _) o).more (by simp), (hA.bits.alloc (Nat.le_refl _) o).more (by simp)⟩ hnw hnb
  rw [h] at hBy
  have HA := Lib.hid hA
  have HS := Lib.hid hS
  have HP := Lib.hid hp
  clear hA hS hp h
  go_enter Try.func65, Try.ntmps65
  go_wp2_with fail
  refine (hBy _).mono ?_
  rintro e w1 ⟨al, cl, rfl, hs1, hb1, -⟩
  have HB1 := Lib.hid (((Below.refl _ _).alloc (Nat.le_refl _) _).trans (hb1.mono (by simp)) : Below w.heap.size w w1)
  have HS1 := Lib.hid hs1
  have hz1 := HB1.out.size
  have hc1 := fun o => (hb1.cell (p := ⟨w.heap.size, o, none⟩) (by simp)).trans (World.cell?_alloc_new w #[b8 f1, b8 x1, .slice ab bs.length cb, .slice aw ws.length cw, b16 a1, b16 m1] 48 o)
  clear hBy hs1 hb1
  go_wp2_with fail
  refine (RParse_any _ _ _ _ _ ((HS.out.below HB1.out (Nat.le_refl _)).more hz1)).mono ?_
  rw [HP.out]
  rintro e w2 ⟨pw, dw, pb, db, rfl, hA2, hb2, -⟩
  have hbw : w.heap.size < w1.heap.size := by
    have h := hc1 0
    have := World.block_lt_of_cell? w1 _ h
    exact this
  have HB2 := Lib.hid (HB1.out.trans (hb2.mono hz1))
  have hc2 := fun o => (hb2.cell (p := ⟨w.heap.size, o, none⟩) hbw).trans (hc1 o)
  have hz2 := hb2.size
  have hd2 := fun (x : Obj) (o : Nat) => (World.cell?_alloc_lt w2 x ⟨w.heap.size, o, none⟩ (by show w.heap.size < w2.heap.size; omega)).trans (hc2 o)
  have HA2 := Lib.hid hA2
  have HS2 := Lib.hid ((HS1.out.below hb2 (Nat.le_refl _)).more hb2.size)
  clear hc1 hA2 hb2
  simp only [Option.getD_some, Option.isSome_some, if_true] at HA2 ⊢
  go_wp2_with fail
  refine (LowSame_any _ _ _ _ _ _ _ _ _ _ _ (HS2.out.alloc (Nat.le_refl _) _) ((HS.out.below HB2.out (Nat.le_refl _)).alloc HB2.out.size _)).mono ?_
  intro e w3 h
  rw [show decide (l = l) = true by simp] at h
  have hb3 := h.below
  obtain ⟨rfl, q, rfl⟩ := h
  go_wp2_with fail
  have hA3 : RepAt ((w2.alloc (.cells #[.int .u8 (f1.toNat : Int), .int .u8 (x1.toNat : Int), .slice pb bs.length db, .slice pw ws.length dw, .int .u16 (a1.toNat : Int), .int .u16 (m1.toNat : Int)] 48)).drewN q) (((w2.alloc (.cells #[.int .u8 (f1.toNat : Int), .int .u8 (x1.toNat : Int), .slice pb bs.length db, .slice pw ws.length dw, .int .u16 (a1.toNat : Int), .int .u16 (m1.toNat : Int)] 48)).drewN q).heap.size) ⟨f1, x1, bs, ws, a1, m1⟩ aw cw ab cb := HA.out.below (below_drawn (HB2.out.alloc HB2.out.size _) q)
  have hA4 : RepAt ((w2.alloc (.cells #[.int .u8 (f1.toNat : Int), .int .u8 (x1.toNat : Int), .slice pb bs.length db, .slice pw ws.length dw, .int .u16 (a1.toNat : Int), .int .u16 (m1.toNat : Int)] 48)).drewN q) (((w2.alloc (.cells #[.int .u8 (f1.toNat : Int), .int .u8 (x1.toNat : Int), .slice pb bs.length db, .slice pw ws.length dw, .int .u16 (a1.toNat : Int), .int .u16 (m1.toNat : Int)] 48)).drewN q).heap.size) ⟨f1, x1, bs, ws, a1, m1⟩ pw dw pb db := HA2.out.below (below_drawn ((Below.refl _ _).alloc (Nat.le_refl _) _) q)
  refine (RSame_any _ _ _ _ _ _ _ _ _ _ _ hA3 hA4).mono ?_
  rintro e w4 ⟨rfl, hb4⟩
  have HB4 := Lib.hid ((below_drawn (HB2.out.alloc HB2.out.size _) q).trans (hb4.mono (below_drawn (HB2.out.alloc HB2.out.size _) q).size))
  clear hb4 hA3 hA4 hb3 hd2 hc2
  go_wp2_with fail
  go_ret
  exact says_bool (by simp) HB4.out

theorem rsaid_at (v : Value) (a : Rep) (aw : Option Addr) (cw : Nat) (ab : Option Addr) (cb : Nat) (b : Option Addr) (n c : Nat) (l : List UInt8) (w : World) (hv : v = repV a aw cw ab cb) (hA : RepAt w w.heap.size a aw cw ab cb) (hS : Sl b8 w w.heap.size b n c l) (hnw : a.words.length ≤ 1000000) (hnb : a.bits.length ≤ 1000000) (h : rbytesN a = some l) :
    Calls Try.prog 65 #[v, .slice b n c] w (Says (.bool true) w) := by
  subst hv
  exact rsaid_any a aw cw ab cb b n c l w hA hS hnw hnb h
theorem fits_at (v u : Value) (a : Req) (aw : Option Addr) (cw : Nat) (ab : Option Addr) (cb : Nat) (r : Rep) (rw_ : Option Addr) (dw : Nat) (rb : Option Addr) (db : Nat) (w : World) (hv : v = askV a aw cw ab cb) (hu : u = repV r rw_ dw rb db) (hA : AskAt w w.heap.size a aw cw ab cb) (hR : RepAt w w.heap.size r rw_ dw rb db)
    (hnw : a.words.length ≤ 1000000) (hnb : a.bits.length ≤ 1000000) (hf : a.fn.toNat = 1 ∨ a.fn.toNat = 2) {z : Bool} (hz : fitsBits a r = z) :
    Calls Try.prog 41 #[v, u] w (Says (.bool z) w) := by
  subst hv hu hz
  exact FitsBits_any a aw cw ab cb r rw_ dw rb db w hA hR hnw hnb hf
theorem rex1 : rbytesN ⟨3, 0, [], [1, 258], 0, 0⟩ = some [3, 4, 0, 1, 1, 2] := by decide +kernel
theorem rex2 : rbytesN (wrongN 3 2) = some [131, 2] := by decide +kernel
theorem rex3 : rbytesN ⟨15, 0, [], [], 19, 10⟩ = some [15, 0, 19, 0, 10] := by decide +kernel
theorem rex4 : fitsBits ⟨1, 0, 10, 0, [], []⟩ ⟨1, 0, [false, false, false, false, false, false, false, false, false, true, false, false, false, false, false, false], [], 0, 0⟩ = true := by decide +kernel
theorem rex5 : fitsBits ⟨1, 0, 10, 0, [], []⟩ ⟨1, 0, [false, false, false, false, false, false, false, false, false, true, true, false, false, false, false, false], [], 0, 0⟩ = false := by decide +kernel
set_option maxRecDepth 100000 in
set_option maxHeartbeats 4000000 in
theorem rawake_any (w : World) : Calls Try.prog 29 #[] w (Says (.bool true) w) := by
  have hmk : ∀ w : World, (Instr.makeSlice 24 (.int .i64 16) (.int .i64 16)).run Try.prog w = .ok (.slice (some ⟨w.heap.size, 0, none⟩) 16 16) (w.alloc (.cells #[.bool false, .bool false, .bool false, .bool false, .bool false, .bool false, .bool false, .bool false, .bool false, .bool false, .bool false, .bool false, .bool false, .bool false, .bool false, .bool false] 4)) := fun _ => by kernel_rfl
  go_enter Try.func29, Try.ntmps29
  go_wp2_with fail
  have hB0 : Below w.heap.size w ((w.alloc (.cells #[.bool false, .bool false, .bool false, .bool false, .bool false, .bool false, .bool false, .bool false, .bool false, .bool true, .bool false, .bool false, .bool false, .bool false, .bool false, .bool false] 4)).alloc (.cells #[.int .u8 1, .int .u16 0, .int .u16 10, .int .u16 0, .slice none 0 0, .slice none 0 0] 26)) := below_two w _ _
  have hr0 : ((w.alloc (.cells #[.bool false, .bool false, .bool false, .bool false, .bool false, .bool false, .bool false, .bool false, .bool false, .bool true, .bool false, .bool false, .bool false, .bool false, .bool false, .bool false] 4)).alloc (.cells #[.int .u8 1, .int .u16 0, .int .u16 10, .int .u16 0, .slice none 0 0, .slice none 0 0] 26)).heap[w.heap.size]? = some (.cells #[.bool false, .bool false, .bool false, .bool false, .bool false, .bool false, .bool false, .bool false, .bool false, .bool true, .bool false, .bool false, .bool false, .bool false, .bool false, .bool false] 4 (0, 0)) := (Below.heap_alloc _ _ _ (by simp)).trans (heap_alloc_new w _)
  have hr1 : ((w.alloc (.cells #[.bool false, .bool false, .bool false, .bool false, .bool false, .bool false, .bool false, .bool false, .bool false, .bool true, .bool false, .bool false, .bool false, .bool false, .bool false, .bool false] 4)).alloc (.cells #[.int .u8 1, .int .u16 0, .int .u16 10, .int .u16 0, .slice none 0 0, .slice none 0 0] 26)).heap[w.heap.size + 1]? = some (.cells #[.int .u8 1, .int .u16 0, .int .u16 10, .int .u16 0, .slice none 0 0, .slice none 0 0] 26 (0, 0)) := at_one w _ _
  have hs0 : ((w.alloc (.cells #[.bool false, .bool false, .bool false, .bool false, .bool false, .bool false, .bool false, .bool false, .bool false, .bool true, .bool false, .bool false, .bool false, .bool false, .bool false, .bool false] 4)).alloc (.cells #[.int .u8 1, .int .u16 0, .int .u16 10, .int .u16 0, .slice none 0 0, .slice none 0 0] 26)).heap.size = w.heap.size + 2 := by simp
  generalize (w.alloc (.cells #[.bool false, .bool false, .bool false, .bool false, .bool false, .bool false, .bool false, .bool false, .bool false, .bool true, .bool false, .bool false, .bool false, .bool false, .bool false, .bool false] 4)).alloc (.cells #[.int .u8 1, .int .u16 0, .int .u16 10, .int .u16 0, .slice none 0 0, .slice none 0 0] 26) = W0 at *
  have HX := Lib.hid (And.intro hB0 (And.intro hr0 (And.intro hr1 hs0)))
  clear hB0 hr0 hr1 hs0 hmk
  refine (fits_at _ _ ⟨1, 0, 10, 0, [], []⟩ none 0 none 0 ⟨1, 0, [false, false, false, false, false, false, false, false, false, true, false, false, false, false, false, false], [], 0, 0⟩ none 0 (some ⟨w.heap.size, 0, none⟩) 16 W0 rfl rfl ⟨Sl.none_, Sl.none_⟩ ⟨Sl.none_, sl_of_row HX.out.2.1 rfl rfl (by simp)⟩ (by simp) (by simp) (.inl rfl) rex4).mono ?_
  rintro e w1 ⟨rfl, hb⟩
  have hq0 := (hb.block w.heap.size (by have := HX.out.2.2.2; omega)).trans HX.out.2.1
  have hq1 := (hb.block (w.heap.size + 1) (by have := HX.out.2.2.2; omega)).trans HX.out.2.2.1
  have hc10 : w1.cell? ⟨w.heap.size, 10, none⟩ = some (.bool false) := cell_of_row _ _ 10 _ _ _ hq0
  have hz10 : w1.frozen? ⟨w.heap.size, 10, none⟩ = false := frozen_of_row _ _ 10 _ _ hq0
  have hca : ∀ i, w1.cell? ⟨w.heap.size + 1, i, none⟩ = (#[.int .u8 1, .int .u16 0, .int .u16 10, .int .u16 0, .slice none 0 0, .slice none 0 0] : Array Value)[i]? := fun i => cell_of_row _ _ i _ _ _ hq1
  have HS := Lib.hid (heap_setCell_same _ _ 10 _ _ (.bool true) hq0)
  have HW1 := Lib.hid ((HX.out.1.trans (hb.mono HX.out.1.size)).setCell (p := ⟨w.heap.size, 10, none⟩) (Nat.le_refl _) (.bool true))
  clear hb hq0 hq1 HX
  go_wp2_with fail
  refine (fits_at _ _ ⟨1, 0, 10, 0, [], []⟩ none 0 none 0 ⟨1, 0, [false, false, false, false, false, false, false, false, false, true, true, false, false, false, false, false], [], 0, 0⟩ none 0 (some ⟨w.heap.size, 0, none⟩) 16 _ rfl rfl ⟨Sl.none_, Sl.none_⟩ ⟨Sl.none_, sl_of_row HS.out rfl rfl (by simp)⟩ (by simp) (by simp) (.inl rfl) rex5).mono ?_
  rintro e w2 ⟨rfl, hb⟩
  have B2 := HW1.out.trans (hb.mono HW1.out.size)
  have Z2 := B2.size
  clear hb hc10 hz10 hca HS HW1
  go_wp2_with fail
  refine (rsaid_at _ ⟨3, 0, [], [1, 258], 0, 0⟩ (some ⟨w2.heap.size, 0, none⟩) 2 none 0 _ 6 6 [3, 4, 0, 1, 1, 2] _ rfl ⟨((Sl.new (f := b16) w2 #[.int .u16 1, .int .u16 258] 22 (0, 0) [1, 258] 2 rfl rfl (by omega)).alloc (Nat.le_refl _) _).more (by simp), Sl.none_⟩ (Sl.new_at _ _ _ _ [3, 4, 0, 1, 1, 2] 6 rfl rfl (by omega) _ (by simp)) (by simp) (by simp) rex1).mono ?_
  rintro e w3 ⟨rfl, hb⟩
  have B3 := says_on (B2.alloc Z2 (.cells #[.int .u16 1, .int .u16 258] 22)) hb
  have Z3 := B3.size
  clear hb B2 Z2
  go_wp2_with fail
  refine (Wrong_at 3 2 _).mono ?_
  rintro e w4 ⟨rfl, hb⟩
  have B4 := B3.trans (hb.mono Z3)
  have Z4 := B4.size
  clear hb B3 Z3
  go_wp2_with fail
  refine (rsaid_at _ (wrongN 3 2) none 0 none 0 _ 2 2 [131, 2] _ rfl ⟨Sl.none_, Sl.none_⟩ (Sl.new _ _ _ _ _ _ rfl rfl (by omega)) (by simp [wrongN]) (by simp [wrongN]) rex2).mono ?_
  rintro e w5 ⟨rfl, hb⟩
  have B5 := below_next B4 Z4 hb
  have Z5 := B5.size
  clear hb B4 Z4
  go_wp2_with fail
  refine (rsaid_at _ ⟨15, 0, [], [], 19, 10⟩ none 0 none 0 _ 5 5 [15, 0, 19, 0, 10] _ rfl ⟨Sl.none_, Sl.none_⟩ (Sl.new _ _ _ _ _ _ rfl rfl (by omega)) (by simp) (by simp) rex3).mono ?_
  rintro e w6 ⟨rfl, hb⟩
  have B6 := below_next B5 Z5 hb
  clear hb B5 Z5
  go_wp2_with fail
  go_ret
  exact Says.mk B6
end Go.Proofs.Ytiecncnmmecjcaa.ReplyW
