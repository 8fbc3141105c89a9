/- A server with four tables, plainly. -/
import Derived.Test.YtamdpinfbadflaaReplyReq
namespace Go.Proofs.Ytamdpinfbadflaa.ModM
open AskM ReplyM

structure Ar where
  at_ : Int
  many : Int
  read : Bool
  write : Bool
  whole : Bool
deriving DecidableEq
def zeroA : Ar := ⟨0, 0, false, false, false⟩
/-- Its numbers are some that an int bears. -/
structure ArOk (x : Ar) : Prop where
  a1 : -9223372036854775808 ≤ x.at_
  a2 : x.at_ ≤ 9223372036854775807
  m1 : -9223372036854775808 ≤ x.many
  m2 : x.many ≤ 9223372036854775807
def hasN (x : Ar) (i : Int) : Bool := decide (0 < x.many) && decide (x.at_ ≤ i) && decide (i - x.at_ < x.many)
def ownN (es : List Ar) (i : Int) : Ar := (es.find? (hasN · i)).getD zeroA
def ownersN (es : List Ar) (at_ n : Nat) : List Ar := (List.range n).map fun k => ownN es ((at_ + k : Nat) : Int)
def readsA (x : Ar) : Bool := !x.read
def writesA (at_ n : Int) (x : Ar) : Bool := !x.write || x.whole && (x.at_ != at_ || x.many != n)
def readableN (es : List Ar) (at_ n : Nat) : Bool := !(ownersN es at_ n).any readsA
def writableN (es : List Ar) (at_ n : Nat) : Bool := !(ownersN es at_ n).any (writesA at_ n)
def rightFrom (len : Nat) : Int → List Ar → Bool
  | _, [] => decide (len ≤ 65536)
  | e, a :: r => if a.at_ < e ∨ a.many < 1 ∨ (len : Int) - a.at_ < a.many then false else rightFrom len (a.at_ + a.many) r
def writtenA (x : Ar) : Bool := x.write
structure Sp where
  coils : List Ar
  inputs : List Ar
  holding : List Ar
  words : List Ar
structure Me where
  coils : List Bool
  inputs : List Bool
  holding : List UInt16
  words : List UInt16
deriving DecidableEq
def mrightN (s : Sp) (m : Me) : Bool :=
  rightFrom m.coils.length 0 s.coils && rightFrom m.inputs.length 0 s.inputs && rightFrom m.holding.length 0 s.holding && rightFrom m.words.length 0 s.words && !s.inputs.any writtenA && !s.words.any writtenA
def targetN (a : Req) : Nat := if a.fn.toNat = 23 then a.to_.toNat else a.at_.toNat
/-- Which table a function reads, or writes: its number among the four. -/
def brN (c : Nat) : Option Nat := if c = 1 then some 0 else if c = 2 then some 1 else none
def bwN (c : Nat) : Option Nat := if c = 5 then some 0 else if c = 15 then some 0 else none
def wrN (c : Nat) : Option Nat := if c = 3 then some 2 else if c = 4 then some 3 else if c = 23 then some 2 else none
def wwN (c : Nat) : Option Nat := if c = 6 then some 2 else if c = 16 then some 2 else if c = 23 then some 2 else none
def Sp.tab (s : Sp) (k : Nat) : List Ar := if k = 0 then s.coils else if k = 1 then s.inputs else if k = 2 then s.holding else s.words
def Me.bits (m : Me) (k : Nat) : List Bool := if k = 0 then m.coils else m.inputs
def Me.regs (m : Me) (k : Nat) : List UInt16 := if k = 2 then m.holding else m.words
def mayR (s : Sp) (o : Option Nat) (at_ n : Nat) : Bool := match o with | none => true | some k => readableN (s.tab k) at_ n
def mayW (s : Sp) (o : Option Nat) (at_ n : Nat) : Bool := match o with | none => true | some k => writableN (s.tab k) at_ n
def allowsN (s : Sp) (a : Req) : Bool :=
  mayR s (brN a.fn.toNat) a.at_.toNat a.many.toNat && mayR s (wrN a.fn.toNat) a.at_.toNat a.many.toNat &&
  mayW s (bwN a.fn.toNat) (targetN a) a.bits.length && mayW s (wwN a.fn.toNat) (targetN a) a.words.length
def checkN (s : Sp) (a : Req) : Nat := if rightN a = false then 3 else if allowsN s a = false then 2 else 0
def overN {α : Type} (l : List α) (at_ : Nat) (v : List α) : List α := l.take at_ ++ v ++ l.drop (at_ + v.length)
def writeM (m : Me) (a : Req) : Me :=
  { m with coils := if (bwN a.fn.toNat).isSome then overN m.coils (targetN a) a.bits else m.coils,
           holding := if (wwN a.fn.toNat).isSome then overN m.holding (targetN a) a.words else m.holding }
def padN (l : List Bool) : List Bool := l ++ List.replicate ((l.length + 7) / 8 * 8 - l.length) false

/-! ### Plain facts -/
theorem hasN_iff {x : Ar} {i : Int} : hasN x i = true ↔ 0 < x.many ∧ x.at_ ≤ i ∧ i - x.at_ < x.many := by
  unfold hasN; simp [and_assoc]
theorem owners_length (es : List Ar) (at_ n : Nat) : (ownersN es at_ n).length = n := by simp [ownersN]
theorem own_nil (i : Int) : ownN [] i = zeroA := rfl
theorem own_many {es : List Ar} {i : Int} : (ownN es i).many = 0 ↔ es.find? (hasN · i) = none := by
  unfold ownN
  cases h : es.find? (hasN · i) with
  | none => simp [zeroA]
  | some x =>
    have := List.find?_some h
    simp only [hasN_iff] at this
    simp; omega
/-- One area more: an address that has none yet gets it, if it has the address. -/
theorem own_snoc (es : List Ar) (x : Ar) (i : Int) : ownN (es ++ [x]) i = if (ownN es i).many = 0 ∧ hasN x i = true then x else ownN es i := by
  by_cases h : es.find? (hasN · i) = none
  · have hm := own_many.2 h
    unfold ownN at hm ⊢
    rw [List.find?_append, h]
    by_cases hx : hasN x i = true
    · simp [hx, zeroA]
    · simp [hx]
  · have hm : ¬ (ownN es i).many = 0 := fun e => h (own_many.1 e)
    rw [if_neg (fun e => hm e.1)]
    unfold ownN
    rw [List.find?_append]
    cases h2 : es.find? (hasN · i) with
    | none => exact absurd h2 h
    | some y => rfl
end Go.Proofs.Ytamdpinfbadflaa.ModM
