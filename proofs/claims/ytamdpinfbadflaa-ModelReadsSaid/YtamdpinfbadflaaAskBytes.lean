/- Bytes. -/
import Derived.Test.YtamdpinfbadflaaAskRight
open Go.RowKit
namespace Go.Proofs.Ytamdpinfbadflaa.AskW
open AskM Mem

/-- The call answers bytes and OK, or none and ErrAsk; nothing that was there is written. -/
def Gives (o : Option (List UInt8)) (w : World) (e : Ending) (w' : World) : Prop :=
  match o with
  | some b => ∃ a c, e = .returned (.tuple #[.slice a b.length c, .int .i64 0]) ∧ Sl b8 w' w'.heap.size a b.length c b ∧ Below w.heap.size w w' ∧ ∀ x : Addr, a = some x → w.heap.size ≤ x.block
  | none => e = .returned (.tuple #[.slice none 0 0, .int .i64 12]) ∧ Below w.heap.size w w'
theorem gives_none {o : Option (List UInt8)} {w w' : World} (ho : o = none) (h : Below w.heap.size w w') : Gives o w (.returned (.tuple #[.slice none 0 0, .int .i64 12])) w' := by subst ho; exact ⟨rfl, h⟩
theorem gives_some {o : Option (List UInt8)} {b : List UInt8} {w w' : World} {a : Option Addr} {n c : Nat} (ho : o = some b) (hs : Sl b8 w' w'.heap.size a n c b) (h : Below w.heap.size w w') (hx : ∀ x : Addr, a = some x → w.heap.size ≤ x.block) : Gives o w (.returned (.tuple #[.slice a n c, .int .i64 0])) w' := by
  subst ho
  obtain rfl := hs.len
  exact ⟨a, c, rfl, hs, h, hx⟩

end Go.Proofs.Ytamdpinfbadflaa.AskW
