/-
  No cell of these rows narrows 'for every input' (looked for: loops, veiled, ifaces, maps, wideKeys, modest, calm, conditions, laid).
  DERIVED. THE GIVEN ROWS OF THIS SEAT. 8 by the template 'for every input the law returns true; each argument reads behind the call as it read before'; 0 by the template 'total and deterministic' (their statements: YtiecncnmmecjcaaTotals.lean).
  GIVEN WITH THE SEED: the statements are not yours to turn. If you find one false, say at which input.
  Laid BY PROGRAM, IN A SANDBOX (cutbox-rows.mjs): the forced cells as the released guide's own fill.sh prints them over the translation 170d9e40db30ed62… (all of the seat's roots in one cut). By AI agents, Wed Nov 11 2026. No macro, syntax, notation, axiom, sorry.
-/
import Derived.Test.YtiecncnmmecjcaaChecked
import GoSem.Claim
import GoSem.ClaimJoined
import GoSem.ClaimMapViews
import Derived.JoinedTies
import Derived.KernelRfl
namespace Go.Proofs.Ytiecncnmmecjcaa
/- THE CELL 'sum', in the pinned program and in every row, IS THE sha256 OF THE DUMP (.gsa) THAT YtiecncnmmecjcaaProg.lean LOADS. Nothing in Lean hashes anything: it is a label: what it is worth is what the hold of that sum in a sandbox is worth. -/
noncomputable def Try.pinned : Pinned := { name := "ytiecncnmmecjcaa", sum := "170d9e40db30ed62f31ee8d241eacf37d41d403a445bf52d3aefe39d917a6eb3", checked := Try.checked }
namespace Rows
def none {H : Type} : Left H := { results := [], args := [] }

/-- 'saucierlaw02.AskTells': WHATEVER THE INPUT: true; the input reads as it did. -/
def askTellsSpec : ChangeSpec := { name := "askTells", fn := fun _ => fun
  | [d1, d2, d3] => { results := [.lit (.bool true)], args := [d1, d2, d3] }
  | _ => none }
def askTellsRow : OpenClaim := { program := "ytiecncnmmecjcaa", sum := "170d9e40db30ed62f31ee8d241eacf37d41d403a445bf52d3aefe39d917a6eb3", func := "saucier/saucierlaw02.AskTells", spec := "askTells", apart := false }
def AskTellsSaid : Prop := askTellsRow.holds Try.pinned (OpenSpec.ofChange askTellsSpec)

/-- ITS FALSE NEIGHBOUR: 'it returns false'. Refute it at one input. -/
def askTellsWrong : ChangeSpec := { name := "askTells", fn := fun _ => fun
  | [d1, d2, d3] => { results := [.lit (.bool false)], args := [d1, d2, d3] }
  | _ => none }
def AskTellsWrongFalsely : Prop := askTellsRow.holds Try.pinned (OpenSpec.ofChange askTellsWrong)

/-- 'saucierlaw02.AskLimits': WHATEVER THE INPUT: true; the input reads as it did. -/
def askLimitsSpec : ChangeSpec := { name := "askLimits", fn := fun _ => fun
  | [d1, d2, d3, d4, d5] => { results := [.lit (.bool true)], args := [d1, d2, d3, d4, d5] }
  | _ => none }
def askLimitsRow : OpenClaim := { program := "ytiecncnmmecjcaa", sum := "170d9e40db30ed62f31ee8d241eacf37d41d403a445bf52d3aefe39d917a6eb3", func := "saucier/saucierlaw02.AskLimits", spec := "askLimits", apart := false }
def AskLimitsSaid : Prop := askLimitsRow.holds Try.pinned (OpenSpec.ofChange askLimitsSpec)

/-- ITS FALSE NEIGHBOUR: 'it returns false'. Refute it at one input. -/
def askLimitsWrong : ChangeSpec := { name := "askLimits", fn := fun _ => fun
  | [d1, d2, d3, d4, d5] => { results := [.lit (.bool false)], args := [d1, d2, d3, d4, d5] }
  | _ => none }
def AskLimitsWrongFalsely : Prop := askLimitsRow.holds Try.pinned (OpenSpec.ofChange askLimitsWrong)

/-- 'saucierlaw03.ReplyTells': WHATEVER THE INPUT: true; the input reads as it did. -/
def replyTellsSpec : ChangeSpec := { name := "replyTells", fn := fun _ => fun
  | [d1, d2, d3, d4, d5, d6] => { results := [.lit (.bool true)], args := [d1, d2, d3, d4, d5, d6] }
  | _ => none }
def replyTellsRow : OpenClaim := { program := "ytiecncnmmecjcaa", sum := "170d9e40db30ed62f31ee8d241eacf37d41d403a445bf52d3aefe39d917a6eb3", func := "saucier/saucierlaw03.ReplyTells", spec := "replyTells", unfollowed := true, recurses := true, apart := false }
def ReplyTellsSaid : Prop := replyTellsRow.holds Try.pinned (OpenSpec.ofChange replyTellsSpec)

/-- ITS FALSE NEIGHBOUR: 'it returns false'. Refute it at one input. -/
def replyTellsWrong : ChangeSpec := { name := "replyTells", fn := fun _ => fun
  | [d1, d2, d3, d4, d5, d6] => { results := [.lit (.bool false)], args := [d1, d2, d3, d4, d5, d6] }
  | _ => none }
def ReplyTellsWrongFalsely : Prop := replyTellsRow.holds Try.pinned (OpenSpec.ofChange replyTellsWrong)

/-- 'saucierlaw03.ReplyEcho': WHATEVER THE INPUT: true; the input reads as it did. -/
def replyEchoSpec : ChangeSpec := { name := "replyEcho", fn := fun _ => fun
  | [d1, d2, d3] => { results := [.lit (.bool true)], args := [d1, d2, d3] }
  | _ => none }
def replyEchoRow : OpenClaim := { program := "ytiecncnmmecjcaa", sum := "170d9e40db30ed62f31ee8d241eacf37d41d403a445bf52d3aefe39d917a6eb3", func := "saucier/saucierlaw03.ReplyEcho", spec := "replyEcho", unfollowed := true, recurses := true, apart := false }
def ReplyEchoSaid : Prop := replyEchoRow.holds Try.pinned (OpenSpec.ofChange replyEchoSpec)

/-- ITS FALSE NEIGHBOUR: 'it returns false'. Refute it at one input. -/
def replyEchoWrong : ChangeSpec := { name := "replyEcho", fn := fun _ => fun
  | [d1, d2, d3] => { results := [.lit (.bool false)], args := [d1, d2, d3] }
  | _ => none }
def ReplyEchoWrongFalsely : Prop := replyEchoRow.holds Try.pinned (OpenSpec.ofChange replyEchoWrong)

/-- 'saucierlaw04.RtuTells': WHATEVER THE INPUT: true; the input reads as it did. -/
def rtuTellsSpec : ChangeSpec := { name := "rtuTells", fn := fun _ => fun
  | [d1, d2, d3, d4] => { results := [.lit (.bool true)], args := [d1, d2, d3, d4] }
  | _ => none }
def rtuTellsRow : OpenClaim := { program := "ytiecncnmmecjcaa", sum := "170d9e40db30ed62f31ee8d241eacf37d41d403a445bf52d3aefe39d917a6eb3", func := "saucier/saucierlaw04.RtuTells", spec := "rtuTells", unfollowed := true, recurses := true, apart := false }
def RtuTellsSaid : Prop := rtuTellsRow.holds Try.pinned (OpenSpec.ofChange rtuTellsSpec)

/-- ITS FALSE NEIGHBOUR: 'it returns false'. Refute it at one input. -/
def rtuTellsWrong : ChangeSpec := { name := "rtuTells", fn := fun _ => fun
  | [d1, d2, d3, d4] => { results := [.lit (.bool false)], args := [d1, d2, d3, d4] }
  | _ => none }
def RtuTellsWrongFalsely : Prop := rtuTellsRow.holds Try.pinned (OpenSpec.ofChange rtuTellsWrong)

/-- 'saucierlaw04.RtuBack': WHATEVER THE INPUT: true; the input reads as it did. -/
def rtuBackSpec : ChangeSpec := { name := "rtuBack", fn := fun _ => fun
  | [d1, d2, d3, d4] => { results := [.lit (.bool true)], args := [d1, d2, d3, d4] }
  | _ => none }
def rtuBackRow : OpenClaim := { program := "ytiecncnmmecjcaa", sum := "170d9e40db30ed62f31ee8d241eacf37d41d403a445bf52d3aefe39d917a6eb3", func := "saucier/saucierlaw04.RtuBack", spec := "rtuBack", unfollowed := true, recurses := true, apart := false }
def RtuBackSaid : Prop := rtuBackRow.holds Try.pinned (OpenSpec.ofChange rtuBackSpec)

/-- ITS FALSE NEIGHBOUR: 'it returns false'. Refute it at one input. -/
def rtuBackWrong : ChangeSpec := { name := "rtuBack", fn := fun _ => fun
  | [d1, d2, d3, d4] => { results := [.lit (.bool false)], args := [d1, d2, d3, d4] }
  | _ => none }
def RtuBackWrongFalsely : Prop := rtuBackRow.holds Try.pinned (OpenSpec.ofChange rtuBackWrong)

/-- 'saucierlaw04.RtuOne': WHATEVER THE INPUT: true; the input reads as it did. -/
def rtuOneSpec : ChangeSpec := { name := "rtuOne", fn := fun _ => fun
  | [d1, d2, d3, d4, d5] => { results := [.lit (.bool true)], args := [d1, d2, d3, d4, d5] }
  | _ => none }
def rtuOneRow : OpenClaim := { program := "ytiecncnmmecjcaa", sum := "170d9e40db30ed62f31ee8d241eacf37d41d403a445bf52d3aefe39d917a6eb3", func := "saucier/saucierlaw04.RtuOne", spec := "rtuOne", unfollowed := true, recurses := true, apart := false }
def RtuOneSaid : Prop := rtuOneRow.holds Try.pinned (OpenSpec.ofChange rtuOneSpec)

/-- ITS FALSE NEIGHBOUR: 'it returns false'. Refute it at one input. -/
def rtuOneWrong : ChangeSpec := { name := "rtuOne", fn := fun _ => fun
  | [d1, d2, d3, d4, d5] => { results := [.lit (.bool false)], args := [d1, d2, d3, d4, d5] }
  | _ => none }
def RtuOneWrongFalsely : Prop := rtuOneRow.holds Try.pinned (OpenSpec.ofChange rtuOneWrong)

/-- 'saucierlaw04.RtuTalks': WHATEVER THE INPUT: true; the input reads as it did. -/
def rtuTalksSpec : ChangeSpec := { name := "rtuTalks", fn := fun _ => fun
  | [d1, d2, d3, d4] => { results := [.lit (.bool true)], args := [d1, d2, d3, d4] }
  | _ => none }
def rtuTalksRow : OpenClaim := { program := "ytiecncnmmecjcaa", sum := "170d9e40db30ed62f31ee8d241eacf37d41d403a445bf52d3aefe39d917a6eb3", func := "saucier/saucierlaw04.RtuTalks", spec := "rtuTalks", unfollowed := true, recurses := true, apart := false }
def RtuTalksSaid : Prop := rtuTalksRow.holds Try.pinned (OpenSpec.ofChange rtuTalksSpec)

/-- ITS FALSE NEIGHBOUR: 'it returns false'. Refute it at one input. -/
def rtuTalksWrong : ChangeSpec := { name := "rtuTalks", fn := fun _ => fun
  | [d1, d2, d3, d4] => { results := [.lit (.bool false)], args := [d1, d2, d3, d4] }
  | _ => none }
def RtuTalksWrongFalsely : Prop := rtuTalksRow.holds Try.pinned (OpenSpec.ofChange rtuTalksWrong)

/- THE SECOND FORM. 'bulk': how many values and letters a reading holds, each counted each time it is reached (what is shared counts as often as it is met; a slice's spare places count too). A statement '..UptoSaid' is the law's where the arguments, and the package variables that the reading takes, are together of bulk at most 1048576: NARROWER than '..Said'. Prove '..Said' where nothing that the law and all that it calls make is longer than what came in: it says more and counts as full. Else prove '..UptoSaid'. A law counts once. -/
mutual
def uptoBulk {H : Type} : DataW H → Nat
  | .lit (.string bytes) => bytes.length + 1
  | .lit _ => 1
  | .nil => 1
  | .ptr d => uptoBulk d + 1
  | .slice elems spare => uptoBulkAll elems + uptoBulkAll spare + 1
  | .agg parts => uptoBulkAll parts + 1
  | .iface _ d => uptoBulk d + 1
  | .map entries => uptoBulkEntries entries + 1
  | .held _ => 1
def uptoBulkAll {H : Type} : List (DataW H) → Nat
  | [] => 0
  | d :: r => uptoBulk d + uptoBulkAll r
def uptoBulkEntries {H : Type} : List (Lit × DataW H) → Nat
  | [] => 0
  | x :: r => uptoBulkEntry x + uptoBulkEntries r
def uptoBulkEntry {H : Type} : Lit × DataW H → Nat
  | (.string bytes, d) => bytes.length + uptoBulk d + 1
  | (_, d) => uptoBulk d + 1
 end
def uptoSmall : (H : Type) → List (DataW H) → Bool := fun _ ds => decide (uptoBulkAll ds ≤ 1048576)
def OpenSpec.upto (s : _root_.Go.ChangeSpec) : _root_.Go.OpenSpec := { _root_.Go.OpenSpec.ofChange s with cond := some uptoSmall }

/-- 'saucierlaw02.AskTells', WHERE WHAT IT READS IS OF BULK AT MOST 1048576: true; the input reads as it did. -/
def askTellsUptoRow : OpenClaim := { program := "ytiecncnmmecjcaa", sum := "170d9e40db30ed62f31ee8d241eacf37d41d403a445bf52d3aefe39d917a6eb3", func := "saucier/saucierlaw02.AskTells", spec := "askTells", apart := false, narrowed := true }
def AskTellsUptoSaid : Prop := askTellsUptoRow.holds Try.pinned (OpenSpec.upto askTellsSpec)

/-- 'saucierlaw02.AskLimits', WHERE WHAT IT READS IS OF BULK AT MOST 1048576: true; the input reads as it did. -/
def askLimitsUptoRow : OpenClaim := { program := "ytiecncnmmecjcaa", sum := "170d9e40db30ed62f31ee8d241eacf37d41d403a445bf52d3aefe39d917a6eb3", func := "saucier/saucierlaw02.AskLimits", spec := "askLimits", apart := false, narrowed := true }
def AskLimitsUptoSaid : Prop := askLimitsUptoRow.holds Try.pinned (OpenSpec.upto askLimitsSpec)

/-- 'saucierlaw03.ReplyTells', WHERE WHAT IT READS IS OF BULK AT MOST 1048576: true; the input reads as it did. -/
def replyTellsUptoRow : OpenClaim := { program := "ytiecncnmmecjcaa", sum := "170d9e40db30ed62f31ee8d241eacf37d41d403a445bf52d3aefe39d917a6eb3", func := "saucier/saucierlaw03.ReplyTells", spec := "replyTells", unfollowed := true, recurses := true, apart := false, narrowed := true }
def ReplyTellsUptoSaid : Prop := replyTellsUptoRow.holds Try.pinned (OpenSpec.upto replyTellsSpec)

/-- 'saucierlaw03.ReplyEcho', WHERE WHAT IT READS IS OF BULK AT MOST 1048576: true; the input reads as it did. -/
def replyEchoUptoRow : OpenClaim := { program := "ytiecncnmmecjcaa", sum := "170d9e40db30ed62f31ee8d241eacf37d41d403a445bf52d3aefe39d917a6eb3", func := "saucier/saucierlaw03.ReplyEcho", spec := "replyEcho", unfollowed := true, recurses := true, apart := false, narrowed := true }
def ReplyEchoUptoSaid : Prop := replyEchoUptoRow.holds Try.pinned (OpenSpec.upto replyEchoSpec)

/-- 'saucierlaw04.RtuTells', WHERE WHAT IT READS IS OF BULK AT MOST 1048576: true; the input reads as it did. -/
def rtuTellsUptoRow : OpenClaim := { program := "ytiecncnmmecjcaa", sum := "170d9e40db30ed62f31ee8d241eacf37d41d403a445bf52d3aefe39d917a6eb3", func := "saucier/saucierlaw04.RtuTells", spec := "rtuTells", unfollowed := true, recurses := true, apart := false, narrowed := true }
def RtuTellsUptoSaid : Prop := rtuTellsUptoRow.holds Try.pinned (OpenSpec.upto rtuTellsSpec)

/-- 'saucierlaw04.RtuBack', WHERE WHAT IT READS IS OF BULK AT MOST 1048576: true; the input reads as it did. -/
def rtuBackUptoRow : OpenClaim := { program := "ytiecncnmmecjcaa", sum := "170d9e40db30ed62f31ee8d241eacf37d41d403a445bf52d3aefe39d917a6eb3", func := "saucier/saucierlaw04.RtuBack", spec := "rtuBack", unfollowed := true, recurses := true, apart := false, narrowed := true }
def RtuBackUptoSaid : Prop := rtuBackUptoRow.holds Try.pinned (OpenSpec.upto rtuBackSpec)

/-- 'saucierlaw04.RtuOne', WHERE WHAT IT READS IS OF BULK AT MOST 1048576: true; the input reads as it did. -/
def rtuOneUptoRow : OpenClaim := { program := "ytiecncnmmecjcaa", sum := "170d9e40db30ed62f31ee8d241eacf37d41d403a445bf52d3aefe39d917a6eb3", func := "saucier/saucierlaw04.RtuOne", spec := "rtuOne", unfollowed := true, recurses := true, apart := false, narrowed := true }
def RtuOneUptoSaid : Prop := rtuOneUptoRow.holds Try.pinned (OpenSpec.upto rtuOneSpec)

/-- 'saucierlaw04.RtuTalks', WHERE WHAT IT READS IS OF BULK AT MOST 1048576: true; the input reads as it did. -/
def rtuTalksUptoRow : OpenClaim := { program := "ytiecncnmmecjcaa", sum := "170d9e40db30ed62f31ee8d241eacf37d41d403a445bf52d3aefe39d917a6eb3", func := "saucier/saucierlaw04.RtuTalks", spec := "rtuTalks", unfollowed := true, recurses := true, apart := false, narrowed := true }
def RtuTalksUptoSaid : Prop := rtuTalksUptoRow.holds Try.pinned (OpenSpec.upto rtuTalksSpec)

end Rows
end Go.Proofs.Ytiecncnmmecjcaa
