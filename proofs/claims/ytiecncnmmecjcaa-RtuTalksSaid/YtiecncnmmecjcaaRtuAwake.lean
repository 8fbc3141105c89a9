/- The examples of the chapter on frames. -/
import Derived.Test.YtiecncnmmecjcaaRtuT
import Derived.Test.YtiecncnmmecjcaaAskKit
open Go.RowKit
namespace Go.Proofs.Ytiecncnmmecjcaa.RtuW
open AskM AskW ReplyM ReplyW RtuM Mem

theorem Ask_at (v v2 : Value) (u : UInt8) (a : Req) (r : Nat × List UInt8) (w : World) (hv : v = b8 u) (hv2 : v2 = askV a none 0 none 0) (hw : a.words = []) (hb : a.bits = []) (hr : askR u a = r) :
    Calls Try.prog 48 #[v, v2] w (OwnGives r w) := by
  subst hv hv2 hr
  exact Ask_own u a none 0 none 0 w ⟨by rw [hw]; exact Sl.none_, by rw [hb]; exact Sl.none_⟩ (by rw [hw]; simp) (by rw [hb]; simp)
theorem Reply_at (v : Value) (u : UInt8) (r : Nat × Option Rep) (a : Option Addr) (n c : Nat) (b : List UInt8) (w : World) (hv : v = b8 u) (hl : Sl b8 w w.heap.size a n c b) (hr : replyR u b = r) :
    Calls Try.prog 50 #[v, .slice a n c] w (ReplyGives r w) := by
  subst hv hr
  exact Reply_any u a n c b w hl
theorem qex1 : askR 1 ⟨3, 0, 10, 0, [], []⟩ = (0, [1, 3, 0, 0, 0, 10, 197, 205]) := by decide +kernel
theorem qex2 : replyR 1 [1, 131, 2, 192, 241] = (0, some ⟨3, 2, [], [], 0, 0⟩) := by decide +kernel
theorem qex3 : replyR 2 [1, 131, 2, 192, 241] = (10, none) := by decide +kernel

set_option maxRecDepth 100000 in
set_option maxHeartbeats 4000000 in
theorem qawake_any (w : World) : Calls Try.prog 43 #[] w (Says (.bool true) w) := by
  go_enter Try.func43, Try.ntmps43
  go_wp2_with fail
  refine (Ask_at _ _ 1 ⟨3, 0, 10, 0, [], []⟩ _ _ rfl rfl rfl rfl qex1).mono ?_
  rintro e w1 ⟨v, rfl, ho, hb⟩
  obtain ⟨a1, c1, rfl, hs1⟩ := Sl.of_own ho
  have B1 := hb
  have Z1 := B1.size
  have HS1 := Lib.hid hs1
  clear hb ho hs1
  simp only [List.length_cons, List.length_nil, Nat.zero_add] at *
  go_wp2_with fail
  refine (Reply_at _ 1 _ _ 5 5 [1, 131, 2, 192, 241] _ rfl (Sl.new _ _ _ _ _ _ rfl rfl (by omega)) qex2).mono ?_
  rintro e w2 ⟨aw, cw, ab, cb, rfl, hA, hb, -⟩
  have B2 := below_next B1 Z1 hb
  have HS2 := Lib.hid ((HS1.out.next (Nat.le_refl _) hb).more (by have := hb.size; simp at this; omega : w1.heap.size ≤ w2.heap.size))
  have HA2 := Lib.hid hA
  have Z2 := B2.size
  clear hb HS1 hA
  simp only [Option.getD_some] at *
  go_wp2_with fail
  have HZa : Hid ((w2.alloc (.cells #[.int .u8 3, .int .u8 2, .slice ab 0 cb, .slice aw 0 cw, .int .u16 0, .int .u16 0] 48)).heap.size = w2.heap.size + 1) := Lib.hid (by simp)
  have HRa := Lib.hid (heap_alloc_new w2 (.cells #[.int .u8 3, .int .u8 2, .slice ab 0 cb, .slice aw 0 cw, .int .u16 0, .int .u16 0] 48))
  have HBa := Lib.hid ((Below.refl w2.heap.size w2).alloc (Nat.le_refl _) (.cells #[.int .u8 3, .int .u8 2, .slice ab 0 cb, .slice aw 0 cw, .int .u16 0, .int .u16 0] 48))
  generalize w2.alloc (.cells #[.int .u8 3, .int .u8 2, .slice ab 0 cb, .slice aw 0 cw, .int .u16 0, .int .u16 0] 48) = W2 at *
  have hz : w2.heap.size + 1 = W2.heap.size := HZa.out.symm
  refine (Reply_at _ 2 _ _ 5 5 [1, 131, 2, 192, 241] _ rfl (by rw [hz]; exact Sl.new _ _ _ _ _ _ rfl rfl (by omega)) qex3).mono ?_
  rintro e w3 ⟨aw3, cw3, ab3, cb3, rfl, -, hb, -⟩
  have hb' := below_next (Below.refl W2.heap.size W2) (Nat.le_refl _) hb
  have B3 := B2.trans ((HBa.out.trans (hb'.mono (by omega))).mono Z2)
  have HS3 := Lib.hid (((HS2.out.below HBa.out (Nat.le_refl _)).below hb' (by omega)).more (by have := hb'.size; omega : w2.heap.size ≤ w3.heap.size))
  have HA3 := Lib.hid ((HA2.out.up HBa.out (Nat.le_refl _)).up hb' (Nat.le_refl _))
  have HR3 := Lib.hid ((hb'.block w2.heap.size (by omega)).trans HRa.out)
  have Z3 := B3.size
  have HL3 : Hid (w2.heap.size < w3.heap.size) := Lib.hid (by have := hb'.size; omega)
  clear hb hb' HS2 HA2 hz HBa HRa HZa B1 Z1
  simp only [Option.getD_none, zeroR] at *
  go_wp2_with fail
  refine (LowSame_any _ _ 8 _ 8 8 [1, 3, 0, 0, 0, 10, 197, 205] [1, 3, 0, 0, 0, 10, 197, 205] _ _ _ ((HS3.out.alloc (Nat.le_refl _) _).alloc (by simp) _) (Sl.new_at _ _ _ _ [1, 3, 0, 0, 0, 10, 197, 205] 8 rfl rfl (by omega) _ (by simp))).mono ?_
  rw [show decide (([1, 3, 0, 0, 0, 10, 197, 205] : List UInt8) = [1, 3, 0, 0, 0, 10, 197, 205]) = true by simp]
  intro e w5 h
  have hb5 := (below_two w3 _ _).trans (h.below.mono (by simp; omega))
  obtain ⟨rfl, -⟩ := h
  have hr5 := (hb5.block w2.heap.size HL3.out).trans HR3.out
  have hc := fun i => cell_of_row _ _ i _ _ _ hr5
  have HA5 := Lib.hid (HA3.out.up hb5 (Nat.le_refl _))
  have B5 := B3.trans (hb5.mono Z3)
  clear hb5 hr5 HR3 HS3 B3 HA3 B2 Z2
  go_wp2_with fail
  refine (RSame_at _ _ ⟨3, 2, [], [], 0, 0⟩ ⟨3, 2, [], [], 0, 0⟩ aw cw ab cb none 0 none 0 _ rfl rfl HA5.out ⟨Sl.none_, Sl.none_⟩).mono ?_
  rw [show decide ((⟨3, 2, [], [], 0, 0⟩ : Rep) = ⟨3, 2, [], [], 0, 0⟩) = true by decide]
  rintro e w6 ⟨rfl, hb⟩
  have B6 := B5.trans (hb.mono B5.size)
  clear hb hc
  go_wp2_with fail
  go_ret
  exact Says.mk B6
end Go.Proofs.Ytiecncnmmecjcaa.RtuW
