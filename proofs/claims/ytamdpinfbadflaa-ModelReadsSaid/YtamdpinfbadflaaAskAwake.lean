/- The chapter's examples. -/
import Derived.Test.YtamdpinfbadflaaAskLook
import Derived.Test.YtamdpinfbadflaaAskBytes
import Derived.Test.YtamdpinfbadflaaAskSame
open Go.RowKit
namespace Go.Proofs.Ytamdpinfbadflaa.AskW
open AskM Mem

theorem Few_any (a : Option Addr) (n c : Nat) (b : Option Addr) (m d : Nat) (w : World) (hn : n ≤ 9223372036854775807) (hm : m ≤ 9223372036854775807) :
    Calls Try.prog 9 #[.slice a n c, .slice b m d] w fun e w' => e = .returned (.bool (decide (n ≤ 200) && decide (m ≤ 2100))) ∧ w = w' := by
  by_cases h1 : n ≤ 200
  · have h1' : decide ((n : Int) ≤ 200) = true := by simp; omega
    go_enter Try.func9, Try.ntmps9
    go_wp2_with fail
    go_ret
    exact ⟨ret_bool (by rw [decide_eq_true h1]; simp; omega), rfl⟩
  · have h1' : decide ((n : Int) ≤ 200) = false := by simp; omega
    go_enter Try.func9, Try.ntmps9
    go_wp2_with fail
    go_ret
    exact ⟨ret_bool (by rw [decide_eq_false h1]; simp), rfl⟩

theorem ex1 : bytesN ⟨3, 107, 3, 0, [], []⟩ = some [3, 0, 107, 0, 3] := by decide +kernel
theorem ex2 : bytesN ⟨15, 19, 4, 0, [], [true, false, true, true]⟩ = some [15, 0, 19, 0, 4, 1, 13] := by decide +kernel
theorem ex3 : bytesN ⟨5, 172, 0, 0, [], [true]⟩ = some [5, 0, 172, 255, 0] := by decide +kernel
theorem ex4 : (lookN [5, 0, 172, 255, 1]).2 = 3 := by decide +kernel
theorem ex5 : (lookN [3, 0, 0, 0, 126]).2 = 3 := by decide +kernel
theorem ex6 : (lookN [7]).2 = 1 := by decide +kernel
theorem ex7 : (lookN []).2 = 1 := by decide +kernel
theorem says_on {w w1 w2 : World} {o : Obj} (hb : Below w.heap.size w w1) (h : Below (w1.alloc o).heap.size (w1.alloc o) w2) : Below w.heap.size w w2 := (hb.alloc hb.size o).trans (h.mono (by have := hb.size; simp; omega))

end Go.Proofs.Ytamdpinfbadflaa.AskW
