/- The bytes of what is written. -/
import Derived.Test.YtamdpinfbadflaaAskFit
import Derived.Test.YtamdpinfbadflaaAskPack
open Go.RowKit
namespace Go.Proofs.Ytamdpinfbadflaa.AskW
open AskM Mem

theorem makes_of_puts {w w1 w2 : World} {base : Nat} {l : List UInt8} {e : Ending} (hbase : w.heap.size ≤ base) (hb : Below w.heap.size w w1) (h : Puts base (.slice none 0 0) l w1 e w2) : Fresh b8 l w e w2 := by
  obtain ⟨v, rfl, ho, hg⟩ := h
  exact Fresh.of_own ho hbase (hb.grown hg.grown hb.size (fun k hk => by cases hk))
theorem AskAt.two {w : World} {a : Req} {aw ab : Option Addr} {cw cb : Nat} (h : AskAt w w.heap.size a aw cw ab cb) (o1 o2 : Obj) : AskAt ((w.alloc o1).alloc o2) ((w.alloc o1).alloc o2).heap.size a aw cw ab cb :=
  ⟨((h.words.alloc (Nat.le_refl _) o1).alloc (by simp) o2).more (by simp; omega), ((h.bits.alloc (Nat.le_refl _) o1).alloc (by simp) o2).more (by simp; omega)⟩

theorem Sl.new_at {α : Type} {f : α → Value} (w : World) (cs : Array Value) (e : TypeId) (fr : Nat × Nat) (l : List α) (n : Nat) (hcs : cs.toList = l.map f) (hn : l.length = n) (hm : n ≤ 1000000) (k : Nat) (hk : k = w.heap.size) :
    Sl f (w.alloc (.cells cs e fr)) (w.alloc (.cells cs e fr)).heap.size (some ⟨k, 0, none⟩) n n l := by subst hk; exact Sl.new w cs e fr l n hcs hn hm
set_option maxHeartbeats 1000000 in
theorem list_any (F : Row) (hF : RowOk F) (a : Req) (aw : Option Addr) (cw : Nat) (ab : Option Addr) (cb : Nat) (w : World) (hA : AskAt w w.heap.size a aw cw ab cb) (hnw : a.words.length ≤ 300000) (hnb : a.bits.length ≤ 1000000) (h1 : F.bits = 1 → 0 < a.bits.length) :
    Calls Try.prog 75 #[rowV F, askV a aw cw ab cb] w (Fresh b8 (listN F a) w) := by
  have hW := hA.words
  have hB := hA.bits
  obtain ⟨fm, fb, fw, ft⟩ := F
  obtain ⟨fn, at_, many, to_, words, bits⟩ := a
  obtain ⟨m1, m2, m3, -, -, -⟩ := hF
  simp only at *
  unfold listN
  simp only
  have hA2 := fun o1 o2 => hA.two o1 o2
  clear hA
  by_cases hb1 : fb = 1
  · subst hb1
    obtain ⟨x, r, rfl⟩ : ∃ x r, bits = x :: r := by
      rcases bits with _ | ⟨x, r⟩
      · simp at h1
      · exact ⟨x, r, rfl⟩
    obtain ⟨b, off, rfl, hbk, hc⟩ := hB.cells (by simp)
    have hcell := hc 0 x rfl
    rw [Nat.add_zero] at hcell
    clear hc h1 hB hW
    rw [if_pos rfl]
    simp only [List.getD, List.getElem?_cons_zero, Option.getD_some]
    have hput := fun (W : World) (k : Nat) (v : UInt16) (z : Int) (hz : z = (v.toNat : Int)) (hk : k = W.heap.size) =>
      put_any (.slice none 0 0) 0 [] (some ⟨k, 0, none⟩) 1 1 [v] (W.alloc (.cells #[.int .u16 z] 29)).heap.size (W.alloc (.cells #[.int .u16 z] 29)) (World.ownsRow_nil _ _ _ _) (Sl.new_at _ _ _ _ [v] 1 (by subst hz; rfl) rfl (by omega) k hk) (by intro x hx h; cases h) (by omega) (Nat.le_refl _)
    cases x
    · simp only [Bool.false_eq_true, if_false]
      go_enter Try.func75, Try.ntmps75
      go_wp2_with fail
      refine (hput _ _ 0 0 rfl (by simp)).mono ?_
      intro e w' h
      obtain ⟨a, c, rfl, hs, hb, hx⟩ := makes_of_puts (by simp; omega) ((below_two w _ _).alloc (by simp; omega) _) h
      clear hput hA2 h
      go_wp2
      go_ret
      exact Fresh.mk rfl hs hb hx
    · simp only [if_true]
      go_enter Try.func75, Try.ntmps75
      go_wp2_with fail
      refine (hput _ _ 65280 65280 rfl (by simp)).mono ?_
      intro e w' h
      obtain ⟨a, c, rfl, hs, hb, hx⟩ := makes_of_puts (by simp; omega) ((below_two w _ _).alloc (by simp; omega) _) h
      clear hput hA2 h
      go_wp2
      go_ret
      exact Fresh.mk rfl hs hb hx
  · rw [if_neg hb1]
    have hb1' : ((fb : Int) == 1) = false := by simp; omega
    by_cases hb2 : 1 < fb
    · rw [if_pos hb2]
      have hb2' : decide (1 < (fb : Int)) = true := by simp; omega
      clear h1 hW hB
      go_enter Try.func75, Try.ntmps75
      go_wp2_with fail
      refine (Pack_any _ _ _ _ _ (hA2 _ _).bits (by omega)).mono ?_
      intro e w' h
      obtain ⟨a, c, rfl, hs, hb, hx⟩ := Fresh.on (below_two w _ _) h
      clear hA2 h
      go_wp2
      go_ret
      exact Fresh.mk rfl hs hb hx
    · rw [if_neg hb2]
      have hb2' : decide (1 < (fb : Int)) = false := by simp; omega
      clear h1 hW hB
      go_enter Try.func75, Try.ntmps75
      go_wp2_with fail
      refine (put_any (.slice none 0 0) 0 [] _ _ _ _ _ _ (World.ownsRow_nil _ _ _ _) (hA2 _ _).words (by intro x hx h; cases h) (by show 0 + 2 * words.length ≤ _; omega) (Nat.le_refl _)).mono ?_
      intro e w' h
      obtain ⟨a, c, rfl, hs, hb, hx⟩ := makes_of_puts (by simp; omega) (below_two w _ _) h
      clear hA2 h
      go_wp2
      go_ret
      exact Fresh.mk rfl hs hb hx
end Go.Proofs.Ytamdpinfbadflaa.AskW
