/- The law ReplyReads, its cases put together. -/
import Derived.Test.YtjgkomigjdlfhaaReplyLawReadB
open Go.RowKit
namespace Go.Proofs.Ytjgkomigjdlfhaa.ReplyW
open AskM ReplyM AskW Mem

set_option maxRecDepth 100000 in
set_option maxHeartbeats 4000000 in
theorem ReplyReads_walk (x m : Nat) (aw : Option Addr) (nw cw : Nat) (lw : List UInt16) (ab : Option Addr) (nb cb : Nat) (lb : List Bool) (w : World) (_hx : x < 256) (hm : m < 65536) (hW : Sl b16 w w.heap.size aw nw cw lw) (hB : Sl Value.bool w w.heap.size ab nb cb lb) :
    Calls Try.prog 13 #[.int .u8 (x : Int), .int .u16 (m : Int), .slice aw nw cw, .slice ab nb cb] w (Says (.bool true) w) := by
  have l1 := len_le hW
  have l2 := len_le hB
  by_cases h1 : 130 < nw
  · have t1 : decide (130 < (nw : Int)) = true := by simp; omega
    clear hW hB
    go_enter Try.func13, Try.ntmps13
    go_wp2_with fail
    refine (rawake_any _).mono ?_
    rintro e w1 ⟨rfl, hb⟩
    go_wp2_with fail
    go_ret
    exact Says.mk hb
  by_cases h2 : 2100 < nb
  · have t1 : decide (130 < (nw : Int)) = false := by simp; omega
    have t2 : decide (2100 < (nb : Int)) = true := by simp; omega
    clear hW hB
    go_enter Try.func13, Try.ntmps13
    go_wp2_with fail
    refine (rawake_any _).mono ?_
    rintro e w1 ⟨rfl, hb⟩
    go_wp2_with fail
    go_ret
    exact Says.mk hb
  have h5 : x % 5 = 0 ∨ x % 5 = 1 ∨ x % 5 = 2 ∨ x % 5 = 3 ∨ x % 5 = 4 := by omega
  rcases h5 with h | h | h | h | h
  · exact reads1 x m aw nw cw lw ab nb cb lb w hm hW hB (by omega) (by omega) h
  · exact reads2 x m aw nw cw lw ab nb cb lb w hm hW hB (by omega) (by omega) h
  · exact reads3 x m aw nw cw lw ab nb cb lb w hm hW hB (by omega) (by omega) h
  · exact reads4 x m aw nw cw lw ab nb cb lb w hm hW hB (by omega) (by omega) h
  · exact reads23 x m aw nw cw lw ab nb cb lb w hm hW hB (by omega) (by omega) h
end Go.Proofs.Ytjgkomigjdlfhaa.ReplyW
