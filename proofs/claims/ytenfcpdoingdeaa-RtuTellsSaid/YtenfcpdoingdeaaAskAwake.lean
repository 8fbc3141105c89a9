/- The chapter's examples. -/
import Derived.Test.YtenfcpdoingdeaaAskLook
import Derived.Test.YtenfcpdoingdeaaAskBytes
import Derived.Test.YtenfcpdoingdeaaAskSame
open Go.RowKit
namespace Go.Proofs.Ytenfcpdoingdeaa.AskW
open AskM Mem

theorem Few_any (a : Option Addr) (n c : Nat) (b : Option Addr) (m d : Nat) (w : World) (hn : n ≤ 9223372036854775807) (hm : m ≤ 9223372036854775807) :
    Calls Try.prog 6 #[.slice a n c, .slice b m d] w fun e w' => e = .returned (.bool (decide (n ≤ 200) && decide (m ≤ 2100))) ∧ w = w' := by
  by_cases h1 : n ≤ 200
  · have h1' : decide ((n : Int) ≤ 200) = true := by simp; omega
    go_enter Try.func6, Try.ntmps6
    go_wp2_with fail
    go_ret
    exact ⟨ret_bool (by rw [decide_eq_true h1]; simp; omega), rfl⟩
  · have h1' : decide ((n : Int) ≤ 200) = false := by simp; omega
    go_enter Try.func6, Try.ntmps6
    go_wp2_with fail
    go_ret
    exact ⟨ret_bool (by rw [decide_eq_false h1]; simp), rfl⟩

theorem wrong_any (k : Nat) (a : Option Addr) (n c : Nat) (l : List UInt8) (w : World) (hS : Sl b8 w w.heap.size a n c l) (hk : (lookN l).2 = k) :
    Calls Try.prog 48 #[.int .u8 (k : Int), .slice a n c] w (Says (.bool true) w) := by
  go_enter Try.func48, Try.ntmps48
  go_wp2_with fail
  refine (Look_any _ _ _ _ _ hS).mono ?_
  rintro e w1 ⟨aw, cw, ab, cb, rfl, hA, hb, hx⟩
  rw [hk]
  have HB := Lib.hid hb
  clear hk hA hb hx
  generalize (lookN l).1 = q at *
  obtain ⟨f1, a1, m1, t1, ws, bs⟩ := q
  go_wp2_with fail
  go_ret
  exact says_bool (by simp) (HB.out.alloc HB.out.size _)

set_option maxHeartbeats 1000000 in
theorem said_any (a : Req) (aw : Option Addr) (cw : Nat) (ab : Option Addr) (cb : Nat) (b : Option Addr) (n c : Nat) (l : List UInt8) (w : World) (hA : AskAt w w.heap.size a aw cw ab cb) (hS : Sl b8 w w.heap.size b n c l) (hnw : a.words.length ≤ 1000000) (hnb : a.bits.length ≤ 1000000) (h : bytesN a = some l) :
    Calls Try.prog 47 #[askV a aw cw ab cb, .slice b n c] w (Says (.bool true) w) := by
  have hp := parse_bytes h
  obtain ⟨f1, a1, m1, t1, ws, bs⟩ := a
  have hBy := fun o => Bytes_any ⟨f1, a1, m1, t1, ws, bs⟩ aw cw ab cb (w.alloc o) ⟨(hA.words.alloc (Nat.le_refl _) o).more (by simp), (hA.bits.alloc (Nat.le_refl _) o).more (by simp)⟩ hnw hnb
  rw [h] at hBy
  have HA := Lib.hid hA
  have HS := Lib.hid hS
  have HP := Lib.hid hp
  clear hA hS hp h
  go_enter Try.func47, Try.ntmps47
  go_wp2_with fail
  refine (hBy _).mono ?_
  rintro e w1 ⟨al, cl, rfl, hs1, hb1, -⟩
  have HB1 := Lib.hid (((Below.refl _ _).alloc (Nat.le_refl _) _).trans (hb1.mono (by simp)) : Below w.heap.size w w1)
  have HS1 := Lib.hid hs1
  have hz1 := HB1.out.size
  have hc1 := fun o => (hb1.cell (p := ⟨w.heap.size, o, none⟩) (by simp)).trans (World.cell?_alloc_new w #[b8 f1, b16 a1, b16 m1, b16 t1, .slice aw ws.length cw, .slice ab bs.length cb] 26 o)
  clear hBy hs1 hb1
  go_wp2_with fail
  refine (Parse_any _ _ _ _ _ ((HS.out.below HB1.out (Nat.le_refl _)).more hz1)).mono ?_
  rw [HP.out]
  rintro e w2 ⟨pw, dw, pb, db, rfl, hA2, hb2, -⟩
  have hbw : w.heap.size < w1.heap.size := by
    have h := hc1 0
    have := World.block_lt_of_cell? w1 _ h
    exact this
  have HB2 := Lib.hid (HB1.out.trans (hb2.mono hz1))
  have hc2 := fun o => (hb2.cell (p := ⟨w.heap.size, o, none⟩) hbw).trans (hc1 o)
  have hz2 := hb2.size
  have hd2 := fun (x : Obj) (o : Nat) => (World.cell?_alloc_lt w2 x ⟨w.heap.size, o, none⟩ (by show w.heap.size < w2.heap.size; omega)).trans (hc2 o)
  have HA2 := Lib.hid hA2
  have HS2 := Lib.hid ((HS1.out.below hb2 (Nat.le_refl _)).more hb2.size)
  clear hc1 hA2 hb2
  simp only [Option.getD_some, Option.isSome_some, if_true] at HA2 ⊢
  go_wp2_with fail
  refine (LowSame_any _ _ _ _ _ _ _ _ _ _ _ (HS2.out.alloc (Nat.le_refl _) _) ((HS.out.below HB2.out (Nat.le_refl _)).alloc HB2.out.size _)).mono ?_
  intro e w3 h
  rw [show decide (l = l) = true by simp] at h
  have hb3 := h.below
  obtain ⟨rfl, q, rfl⟩ := h
  go_wp2_with fail
  have hA3 : AskAt ((w2.alloc (.cells #[.int .u8 (f1.toNat : Int), .int .u16 (a1.toNat : Int), .int .u16 (m1.toNat : Int), .int .u16 (t1.toNat : Int), .slice pw ws.length dw, .slice pb bs.length db] 26)).drewN q) (((w2.alloc (.cells #[.int .u8 (f1.toNat : Int), .int .u16 (a1.toNat : Int), .int .u16 (m1.toNat : Int), .int .u16 (t1.toNat : Int), .slice pw ws.length dw, .slice pb bs.length db] 26)).drewN q).heap.size) ⟨f1, a1, m1, t1, ws, bs⟩ aw cw ab cb := HA.out.below (below_drawn (HB2.out.alloc HB2.out.size _) q)
  have hA4 : AskAt ((w2.alloc (.cells #[.int .u8 (f1.toNat : Int), .int .u16 (a1.toNat : Int), .int .u16 (m1.toNat : Int), .int .u16 (t1.toNat : Int), .slice pw ws.length dw, .slice pb bs.length db] 26)).drewN q) (((w2.alloc (.cells #[.int .u8 (f1.toNat : Int), .int .u16 (a1.toNat : Int), .int .u16 (m1.toNat : Int), .int .u16 (t1.toNat : Int), .slice pw ws.length dw, .slice pb bs.length db] 26)).drewN q).heap.size) ⟨f1, a1, m1, t1, ws, bs⟩ pw dw pb db := HA2.out.below (below_drawn ((Below.refl _ _).alloc (Nat.le_refl _) _) q)
  refine (Same_any _ _ _ _ _ _ _ _ _ _ _ hA3 hA4).mono ?_
  rintro e w4 ⟨rfl, hb4⟩
  have HB4 := Lib.hid ((below_drawn (HB2.out.alloc HB2.out.size _) q).trans (hb4.mono (below_drawn (HB2.out.alloc HB2.out.size _) q).size))
  clear hb4 hA3 hA4 hb3 hd2 hc2
  go_wp2_with fail
  go_ret
  exact says_bool (by simp) HB4.out

theorem said_at (v : Value) (a : Req) (aw : Option Addr) (cw : Nat) (ab : Option Addr) (cb : Nat) (b : Option Addr) (n c : Nat) (l : List UInt8) (w : World) (hv : v = askV a aw cw ab cb) (hA : AskAt w w.heap.size a aw cw ab cb) (hS : Sl b8 w w.heap.size b n c l) (hnw : a.words.length ≤ 1000000) (hnb : a.bits.length ≤ 1000000) (h : bytesN a = some l) :
    Calls Try.prog 47 #[v, .slice b n c] w (Says (.bool true) w) := by
  subst hv
  exact said_any a aw cw ab cb b n c l w hA hS hnw hnb h
theorem wrong_at (v : Value) (k : Nat) (a : Option Addr) (n c : Nat) (l : List UInt8) (w : World) (hv : v = .int .u8 (k : Int)) (hS : Sl b8 w w.heap.size a n c l) (hk : (lookN l).2 = k) :
    Calls Try.prog 48 #[v, .slice a n c] w (Says (.bool true) w) := by
  subst hv
  exact wrong_any k a n c l w hS hk
theorem ex1 : bytesN ⟨3, 107, 3, 0, [], []⟩ = some [3, 0, 107, 0, 3] := by decide +kernel
theorem ex2 : bytesN ⟨15, 19, 4, 0, [], [true, false, true, true]⟩ = some [15, 0, 19, 0, 4, 1, 13] := by decide +kernel
theorem ex3 : bytesN ⟨5, 172, 0, 0, [], [true]⟩ = some [5, 0, 172, 255, 0] := by decide +kernel
theorem ex4 : (lookN [5, 0, 172, 255, 1]).2 = 3 := by decide +kernel
theorem ex5 : (lookN [3, 0, 0, 0, 126]).2 = 3 := by decide +kernel
theorem ex6 : (lookN [7]).2 = 1 := by decide +kernel
theorem ex7 : (lookN []).2 = 1 := by decide +kernel
theorem says_on {w w1 w2 : World} {o : Obj} (hb : Below w.heap.size w w1) (h : Below (w1.alloc o).heap.size (w1.alloc o) w2) : Below w.heap.size w w2 := (hb.alloc hb.size o).trans (h.mono (by have := hb.size; simp; omega))

set_option maxHeartbeats 2000000 in
theorem awake_any (w : World) : Calls Try.prog 7 #[] w (Says (.bool true) w) := by
  go_enter Try.func7, Try.ntmps7
  go_wp2_with fail
  refine (said_at _ ⟨3, 107, 3, 0, [], []⟩ none 0 none 0 _ 5 5 [3, 0, 107, 0, 3] _ rfl ⟨Sl.none_, Sl.none_⟩ (Sl.new _ _ _ _ _ _ rfl rfl (by omega)) (by simp) (by simp) ex1).mono ?_
  rintro e w1 ⟨rfl, hb⟩
  have B1 := below_next (Below.refl w.heap.size w) (Nat.le_refl _) hb
  have Z1 := B1.size
  clear hb
  go_wp2_with fail
  refine (said_at _ ⟨15, 19, 4, 0, [], [true, false, true, true]⟩ none 0 (some ⟨w1.heap.size, 0, none⟩) 4 _ 7 7 [15, 0, 19, 0, 4, 1, 13] _ rfl ⟨Sl.none_, ((Sl.new (f := Value.bool) w1 #[.bool true, .bool false, .bool true, .bool true] 4 (0, 0) [true, false, true, true] 4 rfl rfl (by omega)).alloc (Nat.le_refl _) _).more (by simp)⟩ (Sl.new_at _ _ _ _ [15, 0, 19, 0, 4, 1, 13] 7 rfl rfl (by omega) _ (by simp)) (by simp) (by simp) ex2).mono ?_
  rintro e w2 ⟨rfl, hb⟩
  have B2 := says_on (B1.alloc Z1 (.cells #[.bool true, .bool false, .bool true, .bool true] 4)) hb
  have Z2 := B2.size
  clear hb B1 Z1
  go_wp2_with fail
  refine (said_at _ ⟨5, 172, 0, 0, [], [true]⟩ none 0 (some ⟨w2.heap.size, 0, none⟩) 1 _ 5 5 [5, 0, 172, 255, 0] _ rfl ⟨Sl.none_, ((Sl.new (f := Value.bool) w2 #[.bool true] 4 (0, 0) [true] 1 rfl rfl (by omega)).alloc (Nat.le_refl _) _).more (by simp)⟩ (Sl.new_at _ _ _ _ [5, 0, 172, 255, 0] 5 rfl rfl (by omega) _ (by simp)) (by simp) (by simp) ex3).mono ?_
  rintro e w3 ⟨rfl, hb⟩
  have B3 := says_on (B2.alloc Z2 (.cells #[.bool true] 4)) hb
  have Z3 := B3.size
  clear hb B2 Z2
  go_wp2_with fail
  refine (wrong_at _ 3 _ 5 5 [5, 0, 172, 255, 1] _ rfl (Sl.new _ _ _ _ _ _ rfl rfl (by omega)) ex4).mono ?_
  rintro e w4 ⟨rfl, hb⟩
  have B4 := below_next B3 Z3 hb
  have Z4 := B4.size
  clear hb B3 Z3
  go_wp2_with fail
  refine (wrong_at _ 3 _ 5 5 [3, 0, 0, 0, 126] _ rfl (Sl.new _ _ _ _ _ _ rfl rfl (by omega)) ex5).mono ?_
  rintro e w5 ⟨rfl, hb⟩
  have B5 := below_next B4 Z4 hb
  have Z5 := B5.size
  clear hb B4 Z4
  go_wp2_with fail
  refine (wrong_at _ 1 _ 1 1 [7] _ rfl (Sl.new _ _ _ _ _ _ rfl rfl (by omega)) ex6).mono ?_
  rintro e w6 ⟨rfl, hb⟩
  have B6 := below_next B5 Z5 hb
  have Z6 := B6.size
  clear hb B5 Z5
  go_wp2_with fail
  refine (wrong_at _ 1 _ 0 0 [] _ rfl Sl.none_ ex7).mono ?_
  rintro e w7 ⟨rfl, hb⟩
  have B7 := B6.trans (hb.mono Z6)
  clear hb B6 Z6
  go_wp2_with fail
  go_ret
  exact Says.mk B7
end Go.Proofs.Ytenfcpdoingdeaa.AskW
