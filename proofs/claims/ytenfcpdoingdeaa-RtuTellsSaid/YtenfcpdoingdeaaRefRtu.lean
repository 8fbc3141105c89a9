/- RefRtu: what was RefRtu, RefRtuR. -/
import Derived.Test.YtenfcpdoingdeaaRtuT
import Derived.Test.YtenfcpdoingdeaaRefBytes
import Derived.Test.YtenfcpdoingdeaaRefRParse
/- The document's own answer on frames. -/
open Go.RowKit
namespace Go.Proofs.Ytenfcpdoingdeaa.RefW
open CrcM CrcW RtuM RtuW Mem
open AskM hiding putN
open AskW hiding info8

theorem cgives_none {r : Nat × List UInt8} {w w' : World} {k : Nat} (hr : r = (k, [])) (h : Below w.heap.size w w') : CutGives r w (.returned (.tuple #[.slice none 0 0, .int .i64 (k : Int)])) w' := by
  subst hr
  exact CutGives.none_ k h
theorem cgives_on {r : Nat × List UInt8} {w w1 w' : World} {e : Ending} (hb : Below w.heap.size w w1) (h : CutGives r w1 e w') : CutGives r w e w' := by
  obtain ⟨a, c, he, hs, hb2⟩ := h
  exact ⟨a, c, he, hs, hb.trans (hb2.mono hb.size)⟩

set_option maxRecDepth 100000 in
set_option maxHeartbeats 1000000 in
theorem rqBytes_any (u : UInt8) (a : Option Addr) (n c : Nat) (l : List UInt8) (w : World) (hl : Sl b8 w w.heap.size a n c l) :
    Calls Try.prog 40 #[b8 u, .slice a n c] w (CutGives (frameR u l) w) := by
  have hlen := hl.len
  have hu := u.toNat_lt
  have hn := len_le hl
  have bad : ∀ (_ : frameR u l = (2, [])) (w' : World), Below w.heap.size w w' → CutGives (frameR u l) w (.returned (.tuple #[.slice none 0 0, .int .i64 2])) w' := fun h w' hb => cgives_none h hb
  have BAD := Lib.hid bad
  clear bad
  by_cases h1 : u.toNat < 1
  · have HR := Lib.hid (frame_bad (u := u) (l := l) (.inl (by unfold unitB; simp; omega)))
    have t1 : decide ((u.toNat : Int) < 1) = true := by simp; omega
    clear h1
    go_enter Try.func40, Try.ntmps40
    go_wp2_with fail
    go_ret2
    exact BAD.out HR.out _ (Below.refl _ _)
  have t1 : decide ((u.toNat : Int) < 1) = false := by simp; omega
  by_cases h2 : 247 < u.toNat
  · have HR := Lib.hid (frame_bad (u := u) (l := l) (.inl (by unfold unitB; simp; omega)))
    have t2 : decide (247 < (u.toNat : Int)) = true := by simp; omega
    clear h1 h2
    go_enter Try.func40, Try.ntmps40
    go_wp2_with fail
    go_ret2
    exact BAD.out HR.out _ (Below.refl _ _)
  have t2 : decide (247 < (u.toNat : Int)) = false := by simp; omega
  by_cases h3 : n < 1
  · have HR := Lib.hid (frame_bad (u := u) (l := l) (.inr (.inl (by omega))))
    have t3 : decide ((n : Int) < 1) = true := by simp; omega
    clear h1 h2 h3
    go_enter Try.func40, Try.ntmps40
    go_wp2_with fail
    go_ret2
    exact BAD.out HR.out _ (Below.refl _ _)
  have t3 : decide ((n : Int) < 1) = false := by simp; omega
  by_cases h4 : 253 < n
  · have HR := Lib.hid (frame_bad (u := u) (l := l) (.inr (.inr (by omega))))
    have t4 : decide (253 < (n : Int)) = true := by simp; omega
    clear h1 h2 h3 h4
    go_enter Try.func40, Try.ntmps40
    go_wp2_with fail
    go_ret2
    exact BAD.out HR.out _ (Below.refl _ _)
  have t4 : decide (253 < (n : Int)) = false := by simp; omega
  have HR : Hid (frameR u l = (0, CrcW.putN (u :: l))) := by unfold Hid frameR; rw [if_pos ⟨by unfold unitB; simp; omega, by omega, by omega⟩]
  obtain ⟨i0, hi, hz0, hz1, hz2⟩ := info_parts CrcW.info8
  have hz2' : i0.bytes = 1 := hz2
  have HL := Lib.hid hl
  have hn3 : n ≤ 253 := by omega
  clear hl BAD h1 h2 h3 h4
  go_enter Try.func40, Try.ntmps40
  go_wp2_with (at_builtin; refine wpList_append_sl (f := b8) b8_one rfl (.tmp 23) (.tmp 24) 27 rfl w.heap.size 5 i0 (.int .u8 0) 1 Try.underlying27 hi hz0 hz1 hz2' rfl (.slice (some ⟨w.heap.size, 0, none⟩) 1 1) 1 [b8 u] rfl (own_one w (b8 u) _) a n c rfl (HL.out.alloc (Nat.le_refl _) _) (by unfold maxLen; omega) (by omega) (by simp) ?_; intro v4 w4 hown4 hgrow4; rw [show [b8 u] ++ l.map b8 = (u :: l).map b8 from rfl] at hown4; have HW4 := Lib.hid (((Below.refl w.heap.size w).alloc (Nat.le_refl _) (.cells #[b8 u] 5)).grown hgrow4 (by simp) (by simp [Value.ownBlock])); obtain ⟨g, cap, hv4, hg1, hg2, hov, hSg⟩ := own_at hown4 (by omega); subst hv4; clear hown4 hgrow4 hov)
  refine (refPut_any _ _ _ _ _ hSg (by omega)).mono ?_
  rintro e w5 ⟨a5, c5, rfl, hs5, hb⟩
  go_wp2_with fail
  go_ret2
  rw [HR.out]
  exact ⟨a5, c5, rfl, hs5, HW4.out.trans (hb.mono HW4.out.size)⟩

set_option maxRecDepth 100000 in
set_option maxHeartbeats 1000000 in
theorem rqAsk_any (u : UInt8) (a : Req) (aw : Option Addr) (cw : Nat) (ab : Option Addr) (cb : Nat) (w : World) (hA : AskAt w w.heap.size a aw cw ab cb) (hnw : a.words.length ≤ 1000000) (hnb : a.bits.length ≤ 1000000) :
    Calls Try.prog 44 #[b8 u, askV a aw cw ab cb] w (CutGives (askR u a) w) := by
  have hBy := fun o => rBytes_any a aw cw ab cb (w.alloc o) ⟨(hA.words.alloc (Nat.le_refl _) o).more (by simp), (hA.bits.alloc (Nat.le_refl _) o).more (by simp)⟩ hnw hnb
  obtain ⟨f1, a1, m1, t1, ws, bs⟩ := a
  have hB0 := fun o => (Below.refl w.heap.size w).alloc (Nat.le_refl _) o
  clear hA
  cases hb : bytesN ⟨f1, a1, m1, t1, ws, bs⟩ with
  | none =>
    have HR := Lib.hid (askR_none (u := u) hb)
    rw [hb] at hBy
    clear hb
    go_enter Try.func44, Try.ntmps44
    go_wp2_with fail
    refine (hBy _).mono ?_
    rintro e w1 ⟨rfl, hb1⟩
    have HB := Lib.hid ((hB0 _).trans (hb1.mono (hB0 _).size))
    clear hb1 hB0 hBy
    go_wp2_with fail
    go_ret2
    exact cgives_none HR.out HB.out
  | some l =>
    have HR := Lib.hid (askR_some (u := u) hb)
    rw [hb] at hBy
    clear hb
    go_enter Try.func44, Try.ntmps44
    go_wp2_with fail
    refine (hBy _).mono ?_
    rintro e w1 ⟨x1, c1, rfl, hs, hb1, -⟩
    have HB := Lib.hid ((hB0 _).trans (hb1.mono (hB0 _).size))
    clear hb1 hB0 hBy
    go_wp2_with fail
    refine (rqBytes_any u _ _ _ _ _ hs).mono ?_
    intro e w2 h
    have h := cgives_on HB.out h
    rw [← HR.out] at h
    generalize askR u ⟨f1, a1, m1, t1, ws, bs⟩ = r at *
    obtain ⟨a2, c2, rfl, hs2, hb2⟩ := h
    go_wp2_with fail
    go_ret2
    exact ⟨a2, c2, rfl, hs2, hb2⟩
/-- What is opened of a frame. -/
def OpenG (r : Nat × UInt8 × List UInt8) (w : World) (e : Ending) (w' : World) : Prop :=
  ∃ a c, e = .returned (.tuple #[b8 r.2.1, .slice a r.2.2.length c, .int .i64 (r.1 : Int)]) ∧ Sl b8 w' w'.heap.size a r.2.2.length c r.2.2 ∧ Below w.heap.size w w'
theorem OpenG.none_ {r : Nat × UInt8 × List UInt8} {w w' : World} {k : Nat} (hr : r = (k, 0, [])) (h : Below w.heap.size w w') : OpenG r w (.returned (.tuple #[.int .u8 0, .slice none 0 0, .int .i64 (k : Int)])) w' := by
  subst hr
  exact ⟨none, 0, rfl, Sl.none_, h⟩
set_option maxRecDepth 100000 in
set_option maxHeartbeats 1000000 in
theorem rqParse_any (a : Option Addr) (n c : Nat) (b : List UInt8) (w : World) (hl : Sl b8 w w.heap.size a n c b) :
    Calls Try.prog 42 #[.slice a n c] w (OpenG (openR b) w) := by
  have hlen := hl.len
  have hn := len_le hl
  by_cases h1 : n < 4
  · have HR := Lib.hid (open_len (b := b) (.inl (by omega)))
    have t1 : decide ((n : Int) < 4) = true := by simp; omega
    clear h1
    go_enter Try.func42, Try.ntmps42
    go_wp2_with fail
    go_ret3
    exact OpenG.none_ HR.out (Below.refl _ _)
  have t1 : decide ((n : Int) < 4) = false := by simp; omega
  by_cases h2 : 256 < n
  · have HR := Lib.hid (open_len (b := b) (.inr (by omega)))
    have t2 : decide (256 < (n : Int)) = true := by simp; omega
    clear h1 h2
    go_enter Try.func42, Try.ntmps42
    go_wp2_with fail
    go_ret3
    exact OpenG.none_ HR.out (Below.refl _ _)
  have t2 : decide (256 < (n : Int)) = false := by simp; omega
  have hb : ¬ (b.length < 4 ∨ 256 < b.length) := by omega
  have hcs := cut_sum (b := b) (by omega)
  have hC := refCut_any a n c b w hl (by omega)
  cases hk : cutN b with
  | mk k m =>
    rw [hk] at hC
    cases k with
    | succ k =>
      have hk10 : k = 10 := by rw [hk] at hcs; simp only at hcs; split at hcs <;> omega
      subst hk10
      have HR := Lib.hid (open_cut hb hk)
      have HC := Lib.hid hC
      clear h1 h2 hb hcs hC hk
      go_enter Try.func42, Try.ntmps42
      go_wp2_with fail
      refine HC.out.mono ?_
      rintro e w1 ⟨a1, c1, rfl, -, hb1⟩
      go_wp2_with fail
      go_ret3
      exact OpenG.none_ HR.out hb1
    | zero =>
      have hm : m.length + 2 = n := by
        have h := put_cut hk
        rw [← hlen, ← h, putN_length]
      obtain ⟨u, l, rfl⟩ : ∃ u l, m = u :: l := by
        cases m with
        | nil => simp at hm; omega
        | cons u l => exact ⟨u, l, rfl⟩
      rw [List.length_cons] at hm
      cases hu : unitB u with
      | false =>
        have HR := Lib.hid (open_unit hb hk hu)
        have HC := Lib.hid hC
        have hub : u.toNat < 1 ∨ (¬ u.toNat < 1 ∧ 247 < u.toNat) := by unfold unitB at hu; simp at hu; omega
        have hu8 := u.toNat_lt
        clear h1 h2 hb hcs hC hk hu
        rcases hub with h | ⟨h, h'⟩
        · have s1 : decide ((u.toNat : Int) < 1) = true := by simp; omega
          clear h
          go_enter Try.func42, Try.ntmps42
          go_wp2_with fail
          refine HC.out.mono ?_
          rintro e w1 ⟨a1, c1, rfl, hs, hb1⟩
          obtain ⟨bb, off, rfl, -, hcell⟩ := hs.cells (by simp)
          have h0 := hcell 0 u rfl
          rw [Nat.add_zero] at h0
          clear hcell hs
          simp only [List.length_cons] at *
          go_wp2_with fail
          go_ret3
          exact OpenG.none_ HR.out hb1
        · have s1 : decide ((u.toNat : Int) < 1) = false := by simp; omega
          have s2 : decide (247 < (u.toNat : Int)) = true := by simp; omega
          clear h h'
          go_enter Try.func42, Try.ntmps42
          go_wp2_with fail
          refine HC.out.mono ?_
          rintro e w1 ⟨a1, c1, rfl, hs, hb1⟩
          obtain ⟨bb, off, rfl, -, hcell⟩ := hs.cells (by simp)
          have h0 := hcell 0 u rfl
          rw [Nat.add_zero] at h0
          clear hcell hs
          simp only [List.length_cons] at *
          go_wp2_with fail
          go_ret3
          exact OpenG.none_ HR.out hb1
      | true =>
        obtain ⟨y, l, rfl⟩ : ∃ y l', l = y :: l' := by
          cases l with
          | nil => simp at hm; omega
          | cons y l => exact ⟨y, l, rfl⟩
        rw [List.length_cons] at hm
        have HR := Lib.hid (open_ok hb hk hu)
        have HC := Lib.hid hC
        have s1 : decide ((u.toNat : Int) < 1) = false := by unfold unitB at hu; simp at hu ⊢; omega
        have s2 : decide (247 < (u.toNat : Int)) = false := by unfold unitB at hu; simp at hu ⊢; omega
        clear h1 h2 hb hcs hC hk hu
        go_enter Try.func42, Try.ntmps42
        go_wp2_with fail
        refine HC.out.mono ?_
        rintro e w1 ⟨a1, c1, rfl, hs, hb1⟩
        have hc1 : l.length + 1 + 1 ≤ c1 := by have := hs.nle; simpa using this
        have hc2 : c1 ≤ 9223372036854775807 := by have := hs.cle; unfold maxLen at this; exact this
        obtain ⟨bb, off, rfl, -, hcell⟩ := hs.cells (by simp)
        have h0 := hcell 0 u rfl
        rw [Nat.add_zero] at h0
        have HB := Lib.hid hb1
        have HS := Lib.hid hs
        clear hcell hs hb1
        simp only [List.length_cons] at *
        go_wp2_with fail
        go_region
        go_wp2_with fail
        go_ret3
        rw [HR.out]
        refine ⟨_, _, rfl, ?_, HB.out.drew⟩
        obtain ⟨b', off', he, hlt, hcell⟩ := HS.out.cells (by simp)
        injection he with he
        injection he with he1 he2
        subst he1 he2
        refine ⟨rfl, by simp only [List.length_cons]; omega, by unfold maxLen; omega, (fun h => by cases h), fun hn => ⟨bb, off + 1, rfl, hlt, fun i x hx => ?_⟩⟩
        have h := hcell (i + 1) x hx
        rw [Nat.add_assoc, Nat.add_comm 1 i]
        exact h
end Go.Proofs.Ytenfcpdoingdeaa.RefW
/- A reply within a frame, as the document's own answer opens it. -/
open Go.RowKit
namespace Go.Proofs.Ytenfcpdoingdeaa.RefW
open CrcM CrcW AskM AskW ReplyM ReplyW RtuM RtuW Mem

theorem open_small {b : List UInt8} {v : UInt8} {l : List UInt8} (h : openR b = (0, v, l)) : l.length ≤ 100000 := by
  unfold openR at h
  split at h
  · cases h
  · rename_i hb
    split at h
    · rename_i u m hk
      split at h
      · injection h with _ h
        injection h with _ h
        subst h
        have := putN_length (u :: m)
        rw [put_cut hk] at this
        simp at this
        omega
      · cases h
    · cases h
    · injection h with h _
      omega
set_option maxRecDepth 100000 in
set_option maxHeartbeats 1000000 in
theorem rqReply_any (u : UInt8) (a : Option Addr) (n c : Nat) (b : List UInt8) (w : World) (hl : Sl b8 w w.heap.size a n c b) :
    Calls Try.prog 46 #[b8 u, .slice a n c] w (ReplyGives (replyR u b) w) := by
  have hP := fun o => rqParse_any a n c b (w.alloc o) ((hl.alloc (Nat.le_refl _) o).more (by simp))
  have hB0 := fun o => (Below.refl w.heap.size w).alloc (Nat.le_refl _) o
  clear hl
  rcases open_err b with ⟨v, l, ho⟩ | ho
  · have HSM := Lib.hid (open_small ho)
    rw [ho] at hP
    by_cases hv : v = u
    · subst hv
      have HR := Lib.hid (replyR_one ho)
      clear ho
      go_enter Try.func46, Try.ntmps46
      go_wp2_with fail
      refine (hP _).mono ?_
      rintro e w1 ⟨a1, c1, rfl, hs, hb1⟩
      have HB := Lib.hid ((hB0 (.cells zeroRC 45)).trans (hb1.mono (hB0 _).size))
      have HRow := Lib.hid (row_on hb1)
      have HPA := Lib.hid (rRParse_any _ _ _ _ _ hs HSM.out)
      have hlt : w.heap.size < w1.heap.size := by have := hb1.size; simp at this; omega
      clear hP hs hb1 hB0
      have tv : ((v.toNat : Int) != (v.toNat : Int)) = false := by simp
      go_wp2_with fail
      refine HPA.out.mono ?_
      rintro e w2 ⟨aw, cw, ab, cb, rfl, hA, hb2, hx2⟩
      have HRow2 := Lib.hid ((hb2.block _ hlt).trans HRow.out)
      have HB2 := Lib.hid (HB.out.trans (hb2.mono HB.out.size))
      have HA := Lib.hid hA
      have HX := Lib.hid hx2
      have HZ := Lib.hid (Nat.lt_of_lt_of_le hlt hb2.size)
      have HLT := Lib.hid hlt
      clear hA hx2 hb2 HRow HB HPA tv hlt
      generalize hq : (rparseN l).getD zeroR = q at *
      generalize her : (if (rparseN l).isSome = true then (0 : Int) else 13) = er at *
      have HER := Lib.hid her
      clear her
      obtain ⟨f2, x2, bs, ws, a2, m2⟩ := q
      go_wp2_with (refine wpList_store_row rfl 45 (.tmp 4) (.tmp 25) rfl w.heap.size #[b8 f2, b8 x2, .slice ab bs.length cb, .slice aw ws.length cw, b16 a2, b16 m2] rfl rfl 45 zeroRC HRow2.out (by kernel_rfl) (by kernel_rfl) (by kernel_rfl) ?_)
      have hBS := below_setRow HB2.out (Nat.le_refl _) #[b8 f2, b8 x2, .slice ab bs.length cb, .slice aw ws.length cw, b16 a2, b16 m2]
      refine bodyPost_ret (v := .tuple #[repV ⟨f2, x2, bs, ws, a2, m2⟩ aw cw ab cb, .int .i64 er]) (results_cell_row_tmp rfl _ _ w.heap.size 45 _ (0, 0) _ rfl (setRow_heap _ _ _ _ _ _ HRow2.out) Try.underlying45 rfl (by kernel_rfl) _ rfl) rfl ?_
      rw [HR.out]
      refine ⟨aw, cw, ab, cb, ?_, ?_, hBS, fun x hx => Nat.le_trans (Nat.le_of_lt HLT.out) (HX.out x hx)⟩
      · simp only [hq, ← HER.out]
        split <;> rfl
      · simp only [hq]
        exact rep_setRow HA.out (fun x hx => Nat.lt_of_lt_of_le HLT.out (HX.out x hx)) _
    · have HR := Lib.hid (replyR_other ho hv)
      have tv : ((v.toNat : Int) != (u.toNat : Int)) = true := by rw [bne, ne8 hv]; rfl
      clear ho hv
      go_enter Try.func46, Try.ntmps46
      go_wp2_with fail
      refine (hP _).mono ?_
      rintro e w1 ⟨a1, c1, rfl, hs, hb1⟩
      have HB := Lib.hid ((hB0 (.cells zeroRC 45)).trans (hb1.mono (hB0 _).size))
      have HRow := Lib.hid (row_on hb1)
      clear hP hs hb1 hB0
      go_wp2_with (refine wpList_store_row rfl 45 (.tmp 4) (.tmp 22) rfl w.heap.size zeroRC rfl rfl 45 zeroRC HRow.out (by kernel_rfl) (by kernel_rfl) (by kernel_rfl) ?_)
      exact bodyPost_ret (v := .tuple #[.agg zeroRC, .int .i64 10]) (results_cell_row_tmp rfl _ _ w.heap.size 45 _ (0, 0) _ rfl (setRow_heap _ _ _ _ _ _ HRow.out) Try.underlying45 rfl (by kernel_rfl) _ rfl) rfl (ReplyGives.none_ HR.out (below_setRow HB.out (Nat.le_refl _) _))
  · obtain ⟨k, hk⟩ : ∃ k, openR b = (k + 1, 0, []) := by rcases ho with h | h <;> exact ⟨_, h⟩
    have HR := Lib.hid (replyR_err (u := u) hk)
    rw [hk] at hP
    have tk : ((k + 1 : Nat) : Int) = (k : Int) + 1 := by omega
    have tn : ((k : Int) + 1 != 0) = true := by simp; omega
    clear ho hk
    go_enter Try.func46, Try.ntmps46
    go_wp2_with fail
    refine (hP _).mono ?_
    rintro e w1 ⟨a1, c1, rfl, hs, hb1⟩
    have HB := Lib.hid ((hB0 (.cells zeroRC 45)).trans (hb1.mono (hB0 _).size))
    have HRow := Lib.hid (row_on hb1)
    clear hP hs hb1 hB0
    simp only [tk]
    go_wp2_with (refine wpList_store_row rfl 45 (.tmp 4) (.tmp 17) rfl w.heap.size zeroRC rfl rfl 45 zeroRC HRow.out (by kernel_rfl) (by kernel_rfl) (by kernel_rfl) ?_)
    exact bodyPost_ret (v := .tuple #[.agg zeroRC, .int .i64 ((k : Int) + 1)]) (results_cell_row_tmp rfl _ _ w.heap.size 45 _ (0, 0) _ rfl (setRow_heap _ _ _ _ _ _ HRow.out) Try.underlying45 rfl (by kernel_rfl) _ rfl) rfl (by
      have h := ReplyGives.none_ HR.out (below_setRow HB.out (Nat.le_refl _) zeroRC)
      simp only [tk] at h
      exact h)
end Go.Proofs.Ytenfcpdoingdeaa.RefW
