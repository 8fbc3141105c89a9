/- A loop over a function that tells what it hands over: at each round something is known of what is handed, in the world as it then is. -/
import Derived.RangeFuncNested
import Derived.RangeFuncBound
import Derived.RangeFuncCalls
import Derived.RangeFuncLeaves
open Go.RowKit
namespace Go.Proofs.Yteekdginloljjaa.ToldW

variable {F : Fence} {n : Nat} {P : Program}

/-- The block of the slice that the box b holds. -/
def rowOf (b : Nat) (W : World) : Option Nat := match W.cell? ⟨b, 0, none⟩ with
  | some v => v.ownBlock
  | none => none
theorem rowOf_same {b : Nat} {W W' : World} (h : W'.cell? ⟨b, 0, none⟩ = W.cell? ⟨b, 0, none⟩) : rowOf b W' = rowOf b W := by unfold rowOf; rw [h]
/-- What the function itself does leaves J as it is: new blocks, and turns of its own cells, laid since it was called, which are neither the caller's row nor belong to what was handed over. -/
def Bears {α : Type} (B b : Nat) (Owns : α → Nat → Prop) (J : List α → World → Prop) : Prop :=
  ∀ s W W' row, J s W → W.grownBy W' row → (∀ r, row = some r → B ≤ r ∧ (∃ cs T fr, W.heap[r]? = some (.cells cs T fr)) ∧ rowOf b W ≠ some r ∧ ∀ x ∈ s, ¬ Owns x r) → J s W'
/-- The function, called with a loop's yield, hands over the members of a list xs with S xs, one by one; of each it is known at its round that G holds of it. -/
def Tells {α : Type} (F : Fence) (n : Nat) (P : Program) (gf : Nat) (lb : Array Value) (encs : α → Array Value) (G : α → World → Prop) (Kp : World → World → Prop) (b : Nat) (Owns : α → Nat → Prop) (S : List α → Prop) (N : Nat) (w : World) : Prop :=
  ∀ (l : Nat) (J : List α → World → Prop) (W : World), Below w.heap.size w W → Bears W.heap.size b Owns J →
    (∀ pre x W1, J pre W1 → G x W1 → pre.length < N → YieldAt F (n - 1) P l (encs x) W1 fun e W' => e = .returned (.bool true) ∧ J (pre ++ [x]) W' ∧ Kp W1 W') → J [] W →
    CallsIn F n P gf (#[.func (.yield l) #[] #[]] ++ lb) W fun e W' => (∃ v, e = .returned v) ∧ ∃ xs, S xs ∧ J xs W'

/-- How a round's body ends: it goes on. -/
def goesOn {α : Type} (B : Nat) (Kp : World → World → Prop) (I : List α → World → Prop) (xs : List α) (W : World) : Exit → Act → World → Prop
  | .normal, _, W' => KeepsFrom B W W' ∧ Kp W W' ∧ I xs W'
  | _, _, _ => False

theorem cells_put {W : World} {l k : Nat} {o o' : Obj} {cs : Array Value} {T : TypeId} {fr : Nat × Nat} (hl : W.heap[l]? = some o) (ho : o.isCells = false) (hk : W.heap[k]? = some (.cells cs T fr)) : (W.putObj l o').heap[k]? = some (.cells cs T fr) := by
  rw [World.putObj_heap_other]
  · exact hk
  · rintro rfl
    rw [hl] at hk
    injection hk with hk
    subst hk
    cases ho

set_option maxHeartbeats 1000000 in
theorem wpIn_told {α : Type} {g : Operand} {ps : Array Tmp} {assign body : Code} {Q : Exit → Act → World → Prop} {a : Act} {w : World}
    (hro : F.round = none) (h1 : 1 ≤ n) {gf : Nat} {lb : Array Value} (hg : a.eval g = .func (.func gf) #[] lb) (hF : F.fn gf) (eg : ∀ args w, (callFunc gf args).run P w = .ok (.enter gf args) w)
    {encs : α → Array Value} {G : α → World → Prop} {Kp : World → World → Prop} {b : Nat} {Owns : α → Nat → Prop} {S : List α → Prop} {N : Nat} {w0 : World} (hseq : Tells F (n - 1) P gf lb encs G Kp b Owns S N w0)
    (hKt : ∀ {A B C : World}, Kp A B → Kp B C → Kp A C) (hKb : ∀ (W : World) (l : Nat) (o o' : Obj), w.heap.size ≤ l → W.heap[l]? = some o → o.isCells = false → o.isWalk = false → Kp W (W.putObj l o')) (hb0 : Below w0.heap.size w0 w) (hps : ∀ x, (encs x).size = ps.size)
    (I : List α → World → Prop) (hI : OwnFrom w.heap.size I) (hI2 : Bears w.heap.size b Owns I) (h0 : I [] w)
    (hround : ∀ (l : Nat) (pre : List α) (x : α) (W : World), w.heap.size ≤ l → I pre W → G x W → pre.length < N → (∃ r, W.heap[l]? = some (.loop r)) →
      assign.wpIn (F.inRound l) (n - 1 - 1) P (Exit.then (fun a' Wa => KeepsFrom w.heap.size W Wa ∧ Kp W Wa ∧ ∀ r, (∃ r0, Wa.heap[l]? = some (.loop r0)) → body.wpIn (F.inRound l) (n - 1 - 1) P (goesOn w.heap.size Kp I (pre ++ [x]) (Wa.putObj l (.loop r))) a' (Wa.putObj l (.loop r))) (fun _ _ _ => False))
        { tmps := (ps.zip (encs x)).foldl (fun t (p, v) => t.setIfInBounds p v) a.tmps, defers := [] } W)
    (hdone : ∀ (D : Nat) (xs : List α) (W : World), w.heap.size ≤ D → S xs → I xs W → W.heap[D]? = some (.deferred (some [])) → Q .normal { a with defers := { target := .collected D, args := #[] } :: a.defers } W) :
    (Code.rangeFunc g ps assign body).wpIn F n P Q a w := by
  refine wpIn_rangeFunc fun fn hfn => ?_
  rw [hro]
  -- the loop's record, in each of its states
  let R : LoopState → Option Code → Loop := fun st pe => { state := st, pending := pe, fn, tmps := a.tmps, params := ps, assign, body, defers := w.heap.size }
  let W1 : World := (w.alloc (.deferred (some []))).alloc (.loop (R .ready none))
  have hsz : W1.heap.size = w.heap.size + 1 + 1 := by simp [W1]
  have hL1 : W1.heap[w.heap.size + 1]? = some (.loop (R .ready none)) := by
    have h := World.alloc_heap_new (w.alloc (.deferred (some []))) (.loop (R .ready none))
    rwa [World.size_alloc] at h
  have hD1 : W1.heap[w.heap.size]? = some (.deferred (some [])) := (Below.heap_alloc _ _ _ (by simp)).trans (World.alloc_heap_new w _)
  have hB1 : Below w0.heap.size w0 W1 := hb0.trans ((((Below.refl _ w).alloc (Nat.le_refl _) _).alloc (by simp) _).mono hb0.size)
  refine ⟨w.heap.size + 1, [{ target := .collected w.heap.size, args := #[] }], W1, { target := .fn (.func gf) lb, args := #[.func (.yield (w.heap.size + 1)) #[] #[]] }, W1, gf, #[.func (.yield (w.heap.size + 1)) #[] #[]] ++ lb, W1,
    run_enterLoop_outer _ _ _ _ _, by simp only [resolve, hg]; simp [go_sem], fun f' h => by simp [Target.leads] at h; subst h; exact hF, by simp [invoke, go_sem, eg], fun _ => h1, ?_⟩
  refine (hseq (w.heap.size + 1) (fun pre W => I pre W ∧ W.heap[w.heap.size + 1]? = some (.loop (R .ready none)) ∧ W.heap[w.heap.size]? = some (.deferred (some []))) W1 hB1
    (fun s A B row hs hg' hr => ⟨hI2 s A B row hs.1 hg' (fun r e => ⟨by have := (hr r e).1; omega, (hr r e).2⟩),
      (hg'.block _ (Array.getElem?_eq_some_iff.1 hs.2.1).1 (fun e => by have := (hr _ e.symm).1; omega)).trans hs.2.1,
      (hg'.block _ (Array.getElem?_eq_some_iff.1 hs.2.2).1 (fun e => by have := (hr _ e.symm).1; omega)).trans hs.2.2⟩) ?_ ⟨hI.alloc _ (hI.alloc _ h0), hL1, hD1⟩).mono ?_
  · rintro pre x W ⟨hi, hl, hd⟩ hgx hlen
    refine ⟨fn, _, assign, body, run_yield (P := P) (args := encs x) hl (hps x), roundIn_of_wpIn hfn (wpIn_mono (hround (w.heap.size + 1) pre x W (by omega) hi hgx hlen ⟨_, hl⟩) ?_)⟩
    intro e a' Wa hp
    cases e with
    | normal =>
      obtain ⟨hkf, hka, hbody⟩ := hp
      have hla := hkf.same _ _ (by omega) hl rfl
      have hda := hkf.same _ _ (Nat.le_refl _) hd rfl
      have hlt : w.heap.size + 1 < Wa.heap.size := (Array.getElem?_eq_some_iff.1 hla).1
      refine ⟨_, run_beginRound hla rfl, wpIn_mono (hbody _ ⟨_, hla⟩) ?_⟩
      have hk2 : Kp Wa (Wa.putObj (w.heap.size + 1) (.loop { R .ready none with state := .busy })) := hKb _ _ _ _ (by omega) hla rfl rfl
      have hl2 : (Wa.putObj (w.heap.size + 1) (.loop { R .ready none with state := .busy })).heap[w.heap.size + 1]? = some (.loop { R .ready none with state := .busy }) := World.putObj_heap_same hlt
      have hd2 : (Wa.putObj (w.heap.size + 1) (.loop { R .ready none with state := .busy })).heap[w.heap.size]? = some (.deferred (some [])) := (World.putObj_heap_other (by omega)).trans hda
      intro e a3 W3 hp3
      cases e with
      | normal =>
        obtain ⟨hk3, hkp3, hi3⟩ := hp3
        have hl3 := hk3.same _ _ (by omega) hl2 rfl
        have hd3 := hk3.same _ _ (Nat.le_refl _) hd2 rfl
        refine ⟨_, _, run_endRound (P := P) none hl3, rfl, ⟨hI.putObj _ hi3 (by omega) hl3 rfl, World.putObj_heap_same (Array.getElem?_eq_some_iff.1 hl3).1, (World.putObj_heap_other (by omega)).trans hd3⟩, ?_⟩
        exact hKt hka (hKt (hKt hk2 hkp3) (hKb _ _ _ _ (by omega) hl3 rfl rfl))
      | ret => exact hp3.elim
      | exit id => exact hp3.elim
      | goto t => exact hp3.elim
      | panic c => exact hp3.elim
      | outgrown => exact hp3.elim
    | ret => exact hp.elim
    | exit id => exact hp.elim
    | goto t => exact hp.elim
    | panic c => exact hp.elim
    | outgrown => exact hp.elim
  · rintro e W2 ⟨⟨v, rfl⟩, xs, hS, hi, hl, hd⟩
    exact ⟨none, _, run_endLoop (P := P) hl (fun h => by cases h), hdone _ xs _ (Nat.le_refl _) hS (hI.putObj _ hi (by omega) hl rfl) ((World.putObj_heap_other (by omega)).trans hd)⟩

/-- What a round keeps: what lay below n0; all cells, but some boxes, and the row of the slice in one of them, which it may lay anew. -/
structure KeepsBut (n0 : Nat) (bx : Nat → Prop) (b : Nat) (W W' : World) : Prop where
  below : Below n0 W W'
  size : W.heap.size ≤ W'.heap.size
  row : ∀ k, rowOf b W' = some k → rowOf b W = some k ∨ (W.heap.size ≤ k ∧ k < W'.heap.size)
  cells : ∀ k cs T fr, W.heap[k]? = some (.cells cs T fr) → ¬ bx k → rowOf b W ≠ some k → W'.heap[k]? = some (.cells cs T fr)
section
variable {n0 : Nat} {bx : Nat → Prop} {b : Nat} {A B C : World}
theorem KeepsBut.trans (h : KeepsBut n0 bx b A B) (k : KeepsBut n0 bx b B C) : KeepsBut n0 bx b A C := by
  have hAB := h.size
  have hBC := k.size
  refine ⟨h.below.trans k.below, Nat.le_trans hAB hBC, fun i hi => ?_, fun i cs T fr hi hb hr => ?_⟩
  · rcases k.row i hi with h1 | h1
    · rcases h.row i h1 with h2 | h2
      · exact .inl h2
      · exact .inr ⟨h2.1, by omega⟩
    · exact .inr ⟨by omega, h1.2⟩
  · refine k.cells i cs T fr (h.cells i cs T fr hi hb hr) hb (fun h1 => ?_)
    rcases h.row i h1 with h2 | h2
    · exact hr h2
    · have := (Array.getElem?_eq_some_iff.1 hi).1; omega
theorem KeepsBut.put {w : World} (hn : n0 ≤ w.heap.size) (hbw : b < w.heap.size) (W : World) (l : Nat) (o o' : Obj) (hl : w.heap.size ≤ l) (h : W.heap[l]? = some o) (hc : o.isCells = false) (_ : o.isWalk = false) : KeepsBut n0 bx b W (W.putObj l o') := by
  refine ⟨belowK_b hn W l o o' hl h hc (by assumption), by simp, fun k hk => .inl ?_, fun k cs T fr hk _ _ => cells_put h hc hk⟩
  rw [← hk]
  refine (rowOf_same (World.cell?_of_block ?_)).symm
  exact World.putObj_heap_other (by show b ≠ l; omega)
end
end Go.Proofs.Yteekdginloljjaa.ToldW
