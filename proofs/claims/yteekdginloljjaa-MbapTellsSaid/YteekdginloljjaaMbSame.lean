/- Rows of frames that are compared. -/
import Derived.Test.YteekdginloljjaaMbCut
open Go.RowKit
namespace Go.Proofs.Yteekdginloljjaa.MbW
open MbM Mem

/-- The call answers v; nothing is written. -/
def SaysD (v : Value) (w : World) (e : Ending) (w' : World) : Prop := e = .returned v ∧ ∃ q, w' = w.drewN q
theorem saysD {x y : Bool} {w : World} (h : x = y) (q : Nat) : SaysD (.bool y) w (.returned (.bool x)) (w.drewN q) := by subst h; exact ⟨rfl, q, rfl⟩
theorem SaysD.below {v : Value} {w w' : World} {e : Ending} (h : SaysD v w e w') : Below w.heap.size w w' := by
  obtain ⟨_, q, rfl⟩ := h
  exact below_drawn (Below.refl _ _) q
theorem str_eq (l m : List UInt8) : ((str l).toList == (str m).toList) = decide (l = m) := by
  rw [Bool.eq_iff_iff]
  simp [str]
theorem Same_any (a b : Option Addr) (n c k d : Nat) (l m : List UInt8) (B B2 : Nat) (w : World) (hl : Sl b8 w B a n c l) (hm : Sl b8 w B2 b k d m) :
    Calls Try.prog 10 #[.slice a n c, .slice b k d] w (SaysD (.bool (decide (l = m))) w) := by
  have h1 := hl.text (P := Try.prog) Try.underlying23 Try.underlying5 Try.underlying9
  have h2 := hm.text (P := Try.prog) Try.underlying23 Try.underlying5 Try.underlying9
  go_enter Try.func10, Try.ntmps10
  go_wp2_with fail
  go_ret
  exact saysD (str_eq l m) 0

/-- A frame, and where its bytes lie. -/
structure Fm where
  x : Fr
  ap : Option Addr
  cp : Nat
def It.fm (it : It) : Fm := ⟨it.x, it.ap, it.cp⟩
/-- The row at a, of n frames. -/
def FrsAt (w : World) (B : Nat) (a : Option Addr) (n c : Nat) (es : List Fm) : Prop :=
  es.length = n ∧ n ≤ c ∧ c ≤ maxLen ∧ (0 < n → ∃ b off, a = some ⟨b, off, none⟩ ∧ b < B ∧ ∀ i e, es[i]? = some e →
    w.cell? ⟨b, off + i * 3, none⟩ = some (.int .u16 (e.x.tx.toNat : Int)) ∧ w.cell? ⟨b, off + i * 3 + 1, none⟩ = some (b8 e.x.unit) ∧ w.cell? ⟨b, off + i * 3 + 2, none⟩ = some (.slice e.ap e.x.pdu.length e.cp)) ∧
  ∀ e ∈ es, Sl b8 w B e.ap e.x.pdu.length e.cp e.x.pdu
section
variable {w w' : World} {B B' n c : Nat} {a : Option Addr} {es : List Fm}
theorem FrsAt.keep (h : FrsAt w B a n c es) (hk : ∀ p : Addr, p.block < B → w'.cell? p = w.cell? p) : FrsAt w' B a n c es := by
  obtain ⟨h1, h2, h3, h4, h5⟩ := h
  refine ⟨h1, h2, h3, fun hn => ?_, fun e he => (h5 e he).keep hk⟩
  obtain ⟨b, off, e, hb, hc⟩ := h4 hn
  refine ⟨b, off, e, hb, fun i x hx => ?_⟩
  obtain ⟨k1, k2, k3⟩ := hc i x hx
  exact ⟨(hk ⟨b, _, none⟩ hb).trans k1, (hk ⟨b, _, none⟩ hb).trans k2, (hk ⟨b, _, none⟩ hb).trans k3⟩
theorem FrsAt.more (h : FrsAt w B a n c es) (hB : B ≤ B') : FrsAt w B' a n c es := by
  obtain ⟨h1, h2, h3, h4, h5⟩ := h
  refine ⟨h1, h2, h3, fun hn => ?_, fun e he => (h5 e he).more hB⟩
  obtain ⟨b, off, e, hb, hc⟩ := h4 hn
  exact ⟨b, off, e, Nat.lt_of_lt_of_le hb hB, hc⟩
theorem FrsAt.below (h : FrsAt w B a n c es) (hb : Below B' w w') (hB : B ≤ B') : FrsAt w' B a n c es := h.keep fun _ hp => hb.cell (by omega)
theorem FrsAt.none_ : FrsAt w B none 0 0 [] := ⟨rfl, Nat.le_refl _, by unfold maxLen; omega, fun h => absurd h (by omega), fun e he => by cases he⟩
theorem FrsAt.at_ (h : FrsAt w B a n c es) {k : Nat} (hk : k < n) : ∃ b off e, a = some ⟨b, off, none⟩ ∧ b < B ∧ es[k]? = some e ∧ e ∈ es ∧
    w.cell? ⟨b, off + k * 3, none⟩ = some (.int .u16 (e.x.tx.toNat : Int)) ∧ w.cell? ⟨b, off + k * 3 + 1, none⟩ = some (b8 e.x.unit) ∧ w.cell? ⟨b, off + k * 3 + 2, none⟩ = some (.slice e.ap e.x.pdu.length e.cp) ∧ Sl b8 w B e.ap e.x.pdu.length e.cp e.x.pdu := by
  obtain ⟨h1, h2, h3, h4, h5⟩ := h
  obtain ⟨b, off, e, hb, hc⟩ := h4 (by omega)
  have hx : es[k]? = some (es[k]'(by omega)) := List.getElem?_eq_getElem (by omega)
  have hm := List.mem_of_getElem? hx
  obtain ⟨k1, k2, k3⟩ := hc k _ hx
  exact ⟨b, off, _, e, hb, hx, hm, k1, k2, k3, h5 _ hm⟩
end

theorem quiet_addD {P : Program} {f : FuncId} {args : Array Value} {w : World} {a n : Nat} {v : Value} (h : Calls P f args (w.drewN (a + n)) (SaysD v (w.drewN (a + n)))) :
    Calls P f args (w.drewN (a + n)) fun e w'' => e = .returned v ∧ ∃ m, w'' = w.drewN (a + m) :=
  h.mono fun _ _ ⟨he, m, hm⟩ => ⟨he, n + m, by rw [hm, World.drewN_drewN, Nat.add_assoc]⟩
set_option maxRecDepth 100000 in
set_option maxHeartbeats 1000000 in
theorem same_yes (a a2 : Option Addr) (n c n2 c2 : Nat) (es fs : List Fm) (B B2 : Nat) (w : World) (h : FrsAt w B a n c es) (h2 : FrsAt w B2 a2 n2 c2 fs) (he : es.map Fm.x = fs.map Fm.x) :
    Calls Try.prog 16 #[.slice a n c, .slice a2 n2 c2] w (SaysD (.bool true) w) := by
  have hn : n = n2 := by rw [← h.1, ← h2.1]; have := congrArg List.length he; simpa using this
  subst hn
  have hm : n ≤ 9223372036854775807 := by have h1 := h.2.1; have h3 := h.2.2.1; unfold maxLen at h3; omega
  have h1 : ((n : Int) != (n : Int)) = false := by simp
  have HL := Lib.hid (And.intro h (And.intro h2 he))
  clear h h2 he
  go_enter Try.func16, Try.ntmps16
  go_wp2_with fail
  go_loopw [13] (fun i wr => ∃ j : Nat, j ≤ n ∧ i = .int .i64 (j : Int) ∧ Hid (∃ q, wr = w.drewN q)) (fun i _ => n - (intOf i).toNat)
  case atStart => exact ⟨0, by omega, rfl, ⟨0, rfl⟩⟩
  case round =>
    obtain ⟨j, hj, rfl, HW⟩ := hrel
    by_cases hlt : j < n
    · obtain ⟨q, rfl⟩ := HW.out
      obtain ⟨b1, o1, x, rfl, _, hx, _, k1, k2, k3, hs⟩ := HL.out.1.at_ hlt
      obtain ⟨b2, o2, y, rfl, _, hy, _, l1, l2, l3, hs2⟩ := HL.out.2.1.at_ hlt
      have hxy : x.x = y.x := by
        have h := congrArg (fun l => l[j]?) HL.out.2.2
        simp only [List.getElem?_map, hx, hy, Option.map_some] at h
        injection h
      rw [← hxy] at l1 l2 l3 hs2
      have HSAME : Hid (∀ q, Calls Try.prog 10 #[.slice x.ap x.x.pdu.length x.cp, .slice y.ap x.x.pdu.length y.cp] (w.drewN q) (SaysD (.bool true) (w.drewN q))) := Lib.hid fun q => by
        have h := Same_any _ _ _ _ _ _ _ _ _ _ (w.drewN q) (hs.drawn q) (hs2.drawn q)
        rwa [decide_eq_true rfl] at h
      have ht : decide ((j : Int) < (n : Int)) = true := by simp; omega
      clear hx hy hxy hs hs2
      obtain ⟨⟨tx, un, p⟩, ap, cp⟩ := x
      simp only at k1 k2 k3 l1 l2 l3 HSAME
      have g1 : ((tx.toNat : Int) != (tx.toNat : Int)) = false := by simp
      have g2 : ((un.toNat : Int) != (un.toNat : Int)) = false := by simp
      have i1 : (0 : Int) ≤ (j : Int) := by omega
      have i2 : (j : Int) < (n : Int) := by omega
      go_wp2_with fail
      go_quiet ((go_at_call 10; exact quiet_addD (HSAME.out _)))
      go_wp2_with fail
      go_roundw
      case rel => exact ⟨j + 1, by omega, by go_num, ⟨_, rfl⟩⟩
      case measure => simp [intOf]; omega
    · obtain rfl : j = n := by omega
      obtain ⟨q, rfl⟩ := HW.out
      have ht : decide ((j : Int) < (j : Int)) = false := by simp
      clear HL
      go_wp2_with fail
      go_ret
      exact saysD rfl q
end Go.Proofs.Yteekdginloljjaa.MbW
