/- Same. -/
import Derived.Test.YtamdpinfbadflaaAskEq
import Derived.Test.YtamdpinfbadflaaAskWrite
open Go.RowKit
namespace Go.Proofs.Ytamdpinfbadflaa.AskW
open AskM Mem

theorem ne8 {x y : UInt8} (h : ¬ x = y) : ((x.toNat : Int) == (y.toNat : Int)) = false := by
  simp only [beq_eq_false_iff_ne, ne_eq]; intro e; exact h (UInt8.toNat_inj.1 (by omega))
theorem ne16 {x y : UInt16} (h : ¬ x = y) : ((x.toNat : Int) == (y.toNat : Int)) = false := by
  simp only [beq_eq_false_iff_ne, ne_eq]; intro e; exact h (UInt16.toNat_inj.1 (by omega))
end Go.Proofs.Ytamdpinfbadflaa.AskW
