/- Requests and replies in frames. -/
import Derived.Test.YtiecncnmmecjcaaRtuP
import Derived.Test.YtiecncnmmecjcaaAskBytes
import Derived.Test.YtiecncnmmecjcaaReplyParse
open Go.RowKit
namespace Go.Proofs.Ytiecncnmmecjcaa.RtuW
open AskM AskW ReplyM ReplyW RtuM Mem

theorem OwnGives.on {r : Nat × List UInt8} {w w1 w' : World} {e : Ending} (hb : Below w.heap.size w w1) (h : OwnGives r w1 e w') : OwnGives r w e w' := by
  obtain ⟨v, he, ho, hb2⟩ := h
  exact ⟨v, he, own_lower ho hb.size, hb.trans (hb2.mono hb.size)⟩
theorem askR_none {u : UInt8} {a : Req} (h : bytesN a = none) : askR u a = (12, []) := by unfold askR; rw [h]
theorem askR_some {u : UInt8} {a : Req} {b : List UInt8} (h : bytesN a = some b) : askR u a = frameR u b := by unfold askR; rw [h]

set_option maxRecDepth 100000 in
set_option maxHeartbeats 1000000 in
theorem Ask_own (u : UInt8) (a : Req) (aw : Option Addr) (cw : Nat) (ab : Option Addr) (cb : Nat) (w : World) (hA : AskAt w w.heap.size a aw cw ab cb) (hnw : a.words.length ≤ 1000000) (hnb : a.bits.length ≤ 1000000) :
    Calls Try.prog 48 #[b8 u, askV a aw cw ab cb] w (OwnGives (askR u a) w) := by
  have hBy := fun o => Bytes_any a aw cw ab cb (w.alloc o) ⟨(hA.words.alloc (Nat.le_refl _) o).more (by simp), (hA.bits.alloc (Nat.le_refl _) o).more (by simp)⟩ hnw hnb
  obtain ⟨f1, a1, m1, t1, ws, bs⟩ := a
  have hB0 := fun o => (Below.refl w.heap.size w).alloc (Nat.le_refl _) o
  clear hA
  cases hb : bytesN ⟨f1, a1, m1, t1, ws, bs⟩ with
  | none =>
    have HR := Lib.hid (askR_none (u := u) hb)
    rw [hb] at hBy
    clear hb
    go_enter Try.func48, Try.ntmps48
    go_wp2_with fail
    refine (hBy _).mono ?_
    rintro e w1 ⟨rfl, hb1⟩
    have HB := Lib.hid ((hB0 _).trans (hb1.mono (hB0 _).size))
    clear hb1 hB0 hBy
    go_wp2_with fail
    go_ret2
    exact OwnGives.none_ HR.out HB.out
  | some l =>
    have HR := Lib.hid (askR_some (u := u) hb)
    rw [hb] at hBy
    clear hb
    go_enter Try.func48, Try.ntmps48
    go_wp2_with fail
    refine (hBy _).mono ?_
    rintro e w1 ⟨x1, c1, rfl, hs, hb1, -⟩
    have HB := Lib.hid ((hB0 _).trans (hb1.mono (hB0 _).size))
    clear hb1 hB0 hBy
    go_wp2_with fail
    refine (Bytes_own u _ _ _ _ _ hs).mono ?_
    intro e w2 h
    have h := OwnGives.on HB.out h
    rw [← HR.out] at h
    generalize askR u ⟨f1, a1, m1, t1, ws, bs⟩ = r at *
    obtain ⟨v, rfl, ho, hb2⟩ := h
    go_wp2_with fail
    go_ret2
    exact ⟨v, rfl, ho, hb2⟩

/-- A reply, and an error's number. -/
def ReplyGives (r : Nat × Option Rep) (w : World) (e : Ending) (w' : World) : Prop :=
  ∃ aw cw ab cb, e = .returned (.tuple #[repV (r.2.getD zeroR) aw cw ab cb, .int .i64 (r.1 : Int)]) ∧ RepAt w' w'.heap.size (r.2.getD zeroR) aw cw ab cb ∧ Below w.heap.size w w' ∧ ∀ x : Addr, aw = some x ∨ ab = some x → w.heap.size ≤ x.block
theorem ReplyGives.none_ {r : Nat × Option Rep} {w w' : World} {k : Nat} (hr : r = (k, none)) (h : Below w.heap.size w w') : ReplyGives r w (.returned (.tuple #[.agg zeroRC, .int .i64 (k : Int)])) w' := by
  subst hr
  exact ⟨none, 0, none, 0, rfl, RepAt.nil rfl rfl, h, fun x hx => by rcases hx with hx | hx <;> cases hx⟩
theorem replyR_err {u : UInt8} {b : List UInt8} {k : Nat} (h : openR b = (k + 1, 0, [])) : replyR u b = (k + 1, none) := by unfold replyR; rw [h]; simp
theorem replyR_other {u v : UInt8} {b l : List UInt8} (h : openR b = (0, v, l)) (hv : v ≠ u) : replyR u b = (10, none) := by unfold replyR; rw [h]; simp [hv]
theorem replyR_one {u : UInt8} {b l : List UInt8} (h : openR b = (0, u, l)) : replyR u b = (if (rparseN l).isSome = true then 0 else 13, rparseN l) := by
  unfold replyR; rw [h]; simp only [ne_eq, not_true, if_false]
  cases rparseN l <;> rfl
theorem sl_setRow {α : Type} {f : α → Value} {w : World} {B n c g : Nat} {a : Option Addr} {l : List α} (h : Sl f w B a n c l) (hx : ∀ x : Addr, a = some x → g < x.block) (cs : Array Value) : Sl f (w.setRow g cs) B a n c l := by
  obtain ⟨h1, h2, h3, h5, h4⟩ := h
  refine ⟨h1, h2, h3, h5, fun hn => ?_⟩
  obtain ⟨b, off, e, hb, hc⟩ := h4 hn
  have hg := hx _ e
  simp only at hg
  refine ⟨b, off, e, hb, fun i x hi => ?_⟩
  rw [← hc i x hi]
  exact World.cell?_of_block (w := w) (a := ⟨b, off + i, none⟩) (setRow_other w g b cs (by omega))
theorem rep_setRow {w : World} {r : Rep} {aw ab : Option Addr} {cw cb g : Nat} (h : RepAt w w.heap.size r aw cw ab cb) (hx : ∀ x : Addr, aw = some x ∨ ab = some x → g < x.block) (cs : Array Value) : RepAt (w.setRow g cs) (w.setRow g cs).heap.size r aw cw ab cb := by
  rw [show (w.setRow g cs).heap.size = w.heap.size by simp [World.setRow]]
  exact ⟨sl_setRow h.words (fun x e => hx x (.inl e)) cs, sl_setRow h.bits (fun x e => hx x (.inr e)) cs⟩
theorem row_on {w w1 : World} {cs : Array Value} {T : TypeId} (h : Below (w.alloc (.cells cs T)).heap.size (w.alloc (.cells cs T)) w1) : w1.heap[w.heap.size]? = some (.cells cs T (0, 0)) :=
  (h.block _ (by simp)).trans (heap_alloc_new w _)

set_option maxRecDepth 100000 in
set_option maxHeartbeats 1000000 in
theorem Reply_any (u : UInt8) (a : Option Addr) (n c : Nat) (b : List UInt8) (w : World) (hl : Sl b8 w w.heap.size a n c b) :
    Calls Try.prog 50 #[b8 u, .slice a n c] w (ReplyGives (replyR u b) w) := by
  have hP := fun o => Parse_any a n c b (w.alloc o) ((hl.alloc (Nat.le_refl _) o).more (by simp))
  have hB0 := fun o => (Below.refl w.heap.size w).alloc (Nat.le_refl _) o
  clear hl
  rcases open_err b with ⟨v, l, ho⟩ | ho
  · rw [ho] at hP
    by_cases hv : v = u
    · subst hv
      have HR := Lib.hid (replyR_one ho)
      clear ho
      go_enter Try.func50, Try.ntmps50
      go_wp2_with fail
      refine (hP _).mono ?_
      rintro e w1 ⟨a1, c1, rfl, hs, hb1, hx⟩
      have HB := Lib.hid ((hB0 (.cells zeroRC 48)).trans (hb1.mono (hB0 _).size))
      have HRow := Lib.hid (row_on hb1)
      have HPA := Lib.hid (RParse_any _ _ _ _ _ hs)
      have hlt : w.heap.size < w1.heap.size := by have := hb1.size; simp at this; omega
      clear hP hs hb1 hx hB0
      have tv : ((v.toNat : Int) != (v.toNat : Int)) = false := by simp
      go_wp2_with fail
      refine HPA.out.mono ?_
      rintro e w2 ⟨aw, cw, ab, cb, rfl, hA, hb2, hx2⟩
      have HRow2 := Lib.hid ((hb2.block _ hlt).trans HRow.out)
      have HB2 := Lib.hid (HB.out.trans (hb2.mono HB.out.size))
      have HA := Lib.hid hA
      have HX := Lib.hid hx2
      have HZ := Lib.hid (Nat.lt_of_lt_of_le hlt hb2.size)
      have HLT := Lib.hid hlt
      clear hA hx2 hb2 HRow HB HPA tv hlt
      generalize hq : (rparseN l).getD zeroR = q at *
      generalize her : (if (rparseN l).isSome = true then (0 : Int) else 13) = er at *
      have HER := Lib.hid her
      clear her
      obtain ⟨f2, x2, bs, ws, a2, m2⟩ := q
      go_wp2_with (refine wpList_store_row rfl 48 (.tmp 4) (.tmp 25) rfl w.heap.size #[b8 f2, b8 x2, .slice ab bs.length cb, .slice aw ws.length cw, b16 a2, b16 m2] rfl rfl 48 zeroRC HRow2.out (by kernel_rfl) (by kernel_rfl) (by kernel_rfl) ?_)
      have hBS := below_setRow HB2.out (Nat.le_refl _) #[b8 f2, b8 x2, .slice ab bs.length cb, .slice aw ws.length cw, b16 a2, b16 m2]
      refine bodyPost_ret (v := .tuple #[repV ⟨f2, x2, bs, ws, a2, m2⟩ aw cw ab cb, .int .i64 er]) (results_cell_row_tmp rfl _ _ w.heap.size 48 _ (0, 0) _ rfl (setRow_heap _ _ _ _ _ _ HRow2.out) Try.underlying48 rfl (by kernel_rfl) _ rfl) rfl ?_
      rw [HR.out]
      refine ⟨aw, cw, ab, cb, ?_, ?_, hBS, fun x hx => Nat.le_trans (Nat.le_of_lt HLT.out) (HX.out x hx)⟩
      · simp only [hq, ← HER.out]
        split <;> rfl
      · simp only [hq]
        exact rep_setRow HA.out (fun x hx => Nat.lt_of_lt_of_le HLT.out (HX.out x hx)) _
    · have HR := Lib.hid (replyR_other ho hv)
      have tv : ((v.toNat : Int) != (u.toNat : Int)) = true := by rw [bne, ne8 hv]; rfl
      clear ho hv
      go_enter Try.func50, Try.ntmps50
      go_wp2_with fail
      refine (hP _).mono ?_
      rintro e w1 ⟨a1, c1, rfl, hs, hb1, hx⟩
      have HB := Lib.hid ((hB0 (.cells zeroRC 48)).trans (hb1.mono (hB0 _).size))
      have HRow := Lib.hid (row_on hb1)
      clear hP hs hb1 hx hB0
      go_wp2_with (refine wpList_store_row rfl 48 (.tmp 4) (.tmp 22) rfl w.heap.size zeroRC rfl rfl 48 zeroRC HRow.out (by kernel_rfl) (by kernel_rfl) (by kernel_rfl) ?_)
      exact bodyPost_ret (v := .tuple #[.agg zeroRC, .int .i64 10]) (results_cell_row_tmp rfl _ _ w.heap.size 48 _ (0, 0) _ rfl (setRow_heap _ _ _ _ _ _ HRow.out) Try.underlying48 rfl (by kernel_rfl) _ rfl) rfl (ReplyGives.none_ HR.out (below_setRow HB.out (Nat.le_refl _) _))
  · obtain ⟨k, hk⟩ : ∃ k, openR b = (k + 1, 0, []) := by rcases ho with h | h <;> exact ⟨_, h⟩
    have HR := Lib.hid (replyR_err (u := u) hk)
    rw [hk] at hP
    have tk : ((k + 1 : Nat) : Int) = (k : Int) + 1 := by omega
    have tn : ((k : Int) + 1 != 0) = true := by simp; omega
    clear ho hk
    go_enter Try.func50, Try.ntmps50
    go_wp2_with fail
    refine (hP _).mono ?_
    rintro e w1 ⟨a1, c1, rfl, hs, hb1, hx⟩
    have HB := Lib.hid ((hB0 (.cells zeroRC 48)).trans (hb1.mono (hB0 _).size))
    have HRow := Lib.hid (row_on hb1)
    clear hP hs hb1 hx hB0
    simp only [tk]
    go_wp2_with (refine wpList_store_row rfl 48 (.tmp 4) (.tmp 17) rfl w.heap.size zeroRC rfl rfl 48 zeroRC HRow.out (by kernel_rfl) (by kernel_rfl) (by kernel_rfl) ?_)
    exact bodyPost_ret (v := .tuple #[.agg zeroRC, .int .i64 ((k : Int) + 1)]) (results_cell_row_tmp rfl _ _ w.heap.size 48 _ (0, 0) _ rfl (setRow_heap _ _ _ _ _ _ HRow.out) Try.underlying48 rfl (by kernel_rfl) _ rfl) rfl (by
      have h := ReplyGives.none_ HR.out (below_setRow HB.out (Nat.le_refl _) zeroRC)
      simp only [tk] at h
      exact h)
end Go.Proofs.Ytiecncnmmecjcaa.RtuW
