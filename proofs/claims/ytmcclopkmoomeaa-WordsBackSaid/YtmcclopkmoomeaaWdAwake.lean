/- The chapter's own examples. -/
import Derived.Test.YtmcclopkmoomeaaWdBits
import Derived.Test.YtmcclopkmoomeaaWdPackRegs
import Derived.Test.YtmcclopkmoomeaaWdSame
import Derived.Test.YtmcclopkmoomeaaStep
open Go.RowKit
namespace Go.Proofs.Ytmcclopkmoomeaa.WdW
open AskM WdM Mem

abbrev lEx : List Bool := [true, false, true, true, false, false, false, false, true]
abbrev rEx : List UInt16 := [1, 258]
theorem ex_pack : packN lEx = [13, 1] := by decide
theorem ex_bits : bitsN [13, 1] (9 : Int) = lEx := by decide
theorem ex_none : bitsN [13, 3] (9 : Int) = [] := by decide
theorem ex_regs : regsN [0, 1, 1, 2] = rEx := by decide
theorem ex_put : putN rEx = [0, 1, 1, 2] := by decide
/-- What awake's own variables hold, all along. -/
structure Ex (w : World) (a : Option Addr) (c : Nat) (W : World) : Prop where
  bools : Sl Value.bool W W.heap.size (some ⟨w.heap.size, 0, none⟩) 9 9 lEx
  regs : Sl b16 W W.heap.size a 2 c rEx
  below : Below w.heap.size w W
theorem Ex.on {w : World} {a : Option Addr} {c : Nat} {W W' : World} (h : Ex w a c W) (hb : Below W.heap.size W W') : Ex w a c W' :=
  ⟨h.bools.on hb, h.regs.on hb, h.below.trans (hb.mono h.below.size)⟩
theorem Ex.alloc {w : World} {a : Option Addr} {c : Nat} {W : World} (h : Ex w a c W) (o : Obj) : Ex w a c (W.alloc o) := h.on (below_al _ o)
theorem Ex.drewN {w : World} {a : Option Addr} {c : Nat} {W : World} (h : Ex w a c W) (q : Nat) : Ex w a c (W.drewN q) := h.on (below_drawn (Below.refl _ _) q)
set_option maxRecDepth 100000 in
set_option maxHeartbeats 2000000 in
theorem awake_any (w : World) : Calls Try.prog 7 #[] w (Says (.bool true) w) := by
  go_enter Try.func7, Try.ntmps7
  go_wp2_with fail
  have hs0 := ((Sl.new (f := Value.bool) w #[.bool true, .bool false, .bool true, .bool true, .bool false, .bool false, .bool false, .bool false, .bool true] 4 (0, 0) lEx 9 rfl rfl (by omega))).on (below_al _ (.cells #[.int .u8 0, .int .u8 1, .int .u8 1, .int .u8 2] 5))
  have e1 := World.size_alloc w (.cells #[.bool true, .bool false, .bool true, .bool true, .bool false, .bool false, .bool false, .bool false, .bool true] 4)
  have hs1 : Sl b8 ((w.alloc (.cells #[.bool true, .bool false, .bool true, .bool true, .bool false, .bool false, .bool false, .bool false, .bool true] 4)).alloc (.cells #[.int .u8 0, .int .u8 1, .int .u8 1, .int .u8 2] 5)) ((w.alloc (.cells #[.bool true, .bool false, .bool true, .bool true, .bool false, .bool false, .bool false, .bool false, .bool true] 4)).alloc (.cells #[.int .u8 0, .int .u8 1, .int .u8 1, .int .u8 2] 5)).heap.size (some ⟨w.heap.size + 1, 0, none⟩) 4 4 ([0, 1, 1, 2] : List UInt8) := by
    rw [← e1]
    exact (Sl.new (f := b8) (w.alloc (.cells #[.bool true, .bool false, .bool true, .bool true, .bool false, .bool false, .bool false, .bool false, .bool true] 4)) #[.int .u8 0, .int .u8 1, .int .u8 1, .int .u8 2] 5 (0, 0) ([0, 1, 1, 2] : List UInt8) 4 rfl rfl (by omega))
  have hb0 := (below_al w (.cells #[.bool true, .bool false, .bool true, .bool true, .bool false, .bool false, .bool false, .bool false, .bool true] 4)).trans ((below_al (w.alloc (.cells #[.bool true, .bool false, .bool true, .bool true, .bool false, .bool false, .bool false, .bool false, .bool true] 4)) (.cells #[.int .u8 0, .int .u8 1, .int .u8 1, .int .u8 2] 5)).mono (below_al w _).size)
  refine (Regs_any _ _ _ [0, 1, 1, 2] _ hs1 (by omega)).mono ?_
  rintro e w2 ⟨a2, c2, rfl, hs2, hb2⟩
  rw [ex_regs] at hs2 ⊢
  have K2 := Lib.hid (show Ex w a2 c2 w2 from ⟨hs0.on hb2, hs2, hb0.trans (hb2.mono hb0.size)⟩)
  clear hs0 hs1 hb0 hs2 hb2
  rw [show (rEx).length = 2 from rfl, show decide (4 % 2 = 0) = true from rfl]
  go_wp2_with fail
  refine (Parts_any 65538 w2 (by omega)).mono ?_
  rintro e w' ⟨rfl, rfl⟩
  go_wp2_with fail
  refine (Word_any (-2) _ (by omega) (by omega)).mono ?_
  rintro e w' ⟨rfl, rfl⟩
  go_wp2_with fail
  refine (Word_any 40000 _ (by omega) (by omega)).mono ?_
  rintro e w' ⟨rfl, rfl⟩
  rw [show mayN 40000 = false from rfl, show mayN (-2) = true from rfl, show wordN (-2) = 65534 from rfl]
  go_wp2_with fail
  refine (PackBits_any _ _ _ _ _ K2.out.bools (by omega)).mono ?_
  rintro e w3 ⟨a3, c3, rfl, hs3, hb3, -⟩
  rw [ex_pack] at hs3 ⊢
  have K3 := Lib.hid (K2.out.on hb3)
  have HT := Lib.hid (Same_any _ _ _ _ _ _ _ _ _ _ _ (hs3.on (below_al w3 (.cells #[.int .u8 13, .int .u8 1] 5))) (Sl.new (f := b8) w3 #[.int .u8 13, .int .u8 1] 5 (0, 0) ([13, 1] : List UInt8) 2 rfl rfl (by omega)))
  rw [decide_eq_true rfl] at HT
  clear K2 hs3 hb3
  go_wp2_with fail
  refine HT.out.mono ?_
  rintro e w4 ⟨rfl, q4, rfl⟩
  have K4 := Lib.hid ((K3.out.alloc (.cells #[.int .u8 13, .int .u8 1] 5)).drewN q4)
  clear HT K3
  generalize (w3.alloc (.cells #[.int .u8 13, .int .u8 1] 5)).drewN q4 = w4 at *
  go_wp2_with fail
  refine (Bits_any _ _ _ [13, 1] 9 _ (Sl.new (f := b8) w4 #[.int .u8 13, .int .u8 1] 5 (0, 0) ([13, 1] : List UInt8) 2 rfl rfl (by omega)) (by omega) (by omega) (by omega)).mono ?_
  rintro e w5 ⟨a5, c5, rfl, hs5, hb5, -⟩
  rw [ex_bits] at hs5 ⊢
  have K5 := Lib.hid ((K4.out.alloc (.cells #[.int .u8 13, .int .u8 1] 5)).on hb5)
  have HT := Lib.hid (Bools_any _ _ _ _ _ _ _ _ _ _ w5 hs5 K5.out.bools)
  rw [decide_eq_true rfl] at HT
  clear K4 hs5 hb5
  go_wp2_with fail
  refine HT.out.mono ?_
  rintro e w6 ⟨rfl, q6, rfl⟩
  have K6 := Lib.hid (K5.out.drewN q6)
  clear HT K5
  generalize w5.drewN q6 = w6 at *
  go_wp2_with fail
  refine (Bits_any _ _ _ [13, 3] 9 _ (Sl.new (f := b8) w6 #[.int .u8 13, .int .u8 3] 5 (0, 0) ([13, 3] : List UInt8) 2 rfl rfl (by omega)) (by omega) (by omega) (by omega)).mono ?_
  rintro e w7 ⟨a7, c7, rfl, hs7, hb7, -⟩
  rw [ex_none] at hs7 ⊢
  have K7 := Lib.hid ((K6.out.alloc (.cells #[.int .u8 13, .int .u8 3] 5)).on hb7)
  clear K6 hs7 hb7
  rw [show ([] : List Bool).length = 0 from rfl]
  go_wp2_with fail
  refine (PackRegs_any _ _ _ rEx _ (Sl.new (f := b16) w7 #[.int .u16 1, .int .u16 258] 36 (0, 0) rEx 2 rfl rfl (by omega)) (by omega)).mono ?_
  rintro e w8 ⟨a8, c8, rfl, hs8, hb8, -⟩
  rw [ex_put] at hs8 ⊢
  have K8 := Lib.hid ((K7.out.alloc (.cells #[.int .u16 1, .int .u16 258] 36)).on hb8)
  have HT := Lib.hid (Same_any _ _ _ _ _ _ _ _ _ _ _ (hs8.on (below_al w8 (.cells #[.int .u8 0, .int .u8 1, .int .u8 1, .int .u8 2] 5))) (Sl.new (f := b8) w8 #[.int .u8 0, .int .u8 1, .int .u8 1, .int .u8 2] 5 (0, 0) ([0, 1, 1, 2] : List UInt8) 4 rfl rfl (by omega)))
  rw [decide_eq_true rfl] at HT
  clear K7 hs8 hb8
  go_wp2_with fail
  refine HT.out.mono ?_
  rintro e w9 ⟨rfl, q9, rfl⟩
  have K9 := Lib.hid ((K8.out.alloc (.cells #[.int .u8 0, .int .u8 1, .int .u8 1, .int .u8 2] 5)).drewN q9)
  clear HT K8
  generalize (w8.alloc (.cells #[.int .u8 0, .int .u8 1, .int .u8 1, .int .u8 2] 5)).drewN q9 = w9 at *
  have HT := Lib.hid (RegsSame_any _ _ _ _ _ _ _ _ _ _ _ (K9.out.regs.on (below_al w9 (.cells #[.int .u16 1, .int .u16 258] 36))) (Sl.new (f := b16) w9 #[.int .u16 1, .int .u16 258] 36 (0, 0) rEx 2 rfl rfl (by omega)))
  rw [decide_eq_true rfl] at HT
  go_wp2_with fail
  refine HT.out.mono ?_
  rintro e w10 ⟨rfl, q10, rfl⟩
  have K10 := Lib.hid ((K9.out.alloc (.cells #[.int .u16 1, .int .u16 258] 36)).drewN q10)
  clear HT K9
  generalize (w9.alloc (.cells #[.int .u16 1, .int .u16 258] 36)).drewN q10 = w10 at *
  go_wp2_with fail
  refine (Wide_any 1 2 w10 (by omega) (by omega)).mono ?_
  rintro e w' ⟨rfl, rfl⟩
  go_wp2_with fail
  refine (Signed_any 65535 _ (by omega)).mono ?_
  rintro e w' ⟨rfl, rfl⟩
  rw [show signedN 65535 = -1 from rfl]
  go_wp2_with fail
  go_ret
  exact ⟨ret_bool rfl, K10.out.below⟩
end Go.Proofs.Ytmcclopkmoomeaa.WdW
