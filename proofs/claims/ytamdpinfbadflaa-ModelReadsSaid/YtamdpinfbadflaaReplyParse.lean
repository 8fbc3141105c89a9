/- Parse of package reply. -/
import Derived.Test.YtamdpinfbadflaaReplyBytes
open Go.RowKit
namespace Go.Proofs.Ytamdpinfbadflaa.ReplyW
open AskM ReplyM AskW Mem

/-- The call answers a reply, or 13. -/
def RParsed (o : Option Rep) (w : World) (e : Ending) (w' : World) : Prop :=
  ∃ aw cw ab cb, e = .returned (.tuple #[repV (o.getD zeroR) aw cw ab cb, .int .i64 (if o.isSome = true then 0 else 13)]) ∧ RepAt w' w'.heap.size (o.getD zeroR) aw cw ab cb ∧ Below w.heap.size w w' ∧ ∀ x : Addr, aw = some x ∨ ab = some x → w.heap.size ≤ x.block
theorem rparsed_none {o : Option Rep} {w w' : World} (ho : o = none) (h : Below w.heap.size w w') : RParsed o w (.returned (.tuple #[.agg zeroRC, .int .i64 13])) w' := by
  subst ho
  exact ⟨none, 0, none, 0, rfl, RepAt.nil rfl rfl, h, fun x hx => by rcases hx with hx | hx <;> cases hx⟩
theorem rparsed_some {o : Option Rep} {q : Rep} {w w' : World} (ho : o = some q) {aw ab : Option Addr} {cw cb : Nat} (hA : RepAt w' w'.heap.size q aw cw ab cb) (h : Below w.heap.size w w') (hx : ∀ x : Addr, aw = some x ∨ ab = some x → w.heap.size ≤ x.block) : RParsed o w (.returned (.tuple #[repV q aw cw ab cb, .int .i64 0])) w' := by
  subst ho
  exact ⟨aw, cw, ab, cb, rfl, hA, h, hx⟩
/-- What parsing tells, once the kind is known. -/
def afterN (k : Kind) (o : Option Rep) : Option Rep := match o with
  | none => none
  | some r => if rightK k r = true then some r else none
theorem rparse_at {l : List UInt8} {x : UInt8} (hx : l.getD 0 0 = x) (h0 : l.length ≠ 0) : rparseN l = match kindOfN x.toNat with | none => none | some k => afterN k (readK k l) := by
  unfold rparseN
  rw [if_neg h0, hx]
  rfl
theorem set_put {w W : World} {g : Nat} {q : Rep} {aw ab : Option Addr} {cw cb : Nat} (h : RepBlock W g) (hb : Below w.heap.size w W) (hg : w.heap.size ≤ g) (hA : RepAt W W.heap.size q aw cw ab cb) (hx : ∀ x : Addr, aw = some x ∨ ab = some x → x.block ≠ g) :
    ((setAll W g (b8 q.fn) (b8 q.ex) (.slice ab q.bits.length cb) (.slice aw q.words.length cw) (b16 q.at_) (b16 q.many)).heap[g]? = some (.cells #[b8 q.fn, b8 q.ex, .slice ab q.bits.length cb, .slice aw q.words.length cw, b16 q.at_, b16 q.many] 36 (0, 0))) ∧
    Below w.heap.size w (setAll W g (b8 q.fn) (b8 q.ex) (.slice ab q.bits.length cb) (.slice aw q.words.length cw) (b16 q.at_) (b16 q.many)) ∧
    RepAt (setAll W g (b8 q.fn) (b8 q.ex) (.slice ab q.bits.length cb) (.slice aw q.words.length cw) (b16 q.at_) (b16 q.many)) (setAll W g (b8 q.fn) (b8 q.ex) (.slice ab q.bits.length cb) (.slice aw q.words.length cw) (b16 q.at_) (b16 q.many)).heap.size q aw cw ab cb :=
  ⟨rsetAll_heap h, setAll_below hb hg, setAll_sl hA.words (fun y hy => hx y (.inl hy)), setAll_sl hA.bits (fun y hy => hx y (.inr hy))⟩
set_option maxRecDepth 100000 in
set_option maxHeartbeats 16000000 in
theorem RParse_any (a : Option Addr) (n c : Nat) (l : List UInt8) (w : World) (hS : Sl b8 w w.heap.size a n c l) :
    Calls Try.prog 20 #[.slice a n c] w (RParsed (rparseN l) w) := by
  have hn := len_le hS
  have hl := hS.len
  by_cases h0 : n = 0
  · have HP : Hid (rparseN l = none) := Lib.hid (by unfold rparseN; rw [if_pos (by omega)])
    subst h0
    clear hl hS
    go_enter Try.func20, Try.ntmps20
    go_wp2_with fail
    exact bodyPost_ret (v := .tuple #[.agg zeroRC, .int .i64 13]) (results_cell_row_tmp rfl _ _ w.heap.size 36 zeroRC (0, 0) _ rfl (heap_alloc_new w _) Try.underlying36 rfl (by kernel_rfl) _ rfl) rfl (rparsed_none HP.out ((Below.refl _ _).alloc (Nat.le_refl _) _))
  have h0' : ((n : Int) == 0) = false := by simp; omega
  obtain ⟨b, off, x, rfl, hb, hx, hc⟩ := hS.at_ (k := 0) (by omega)
  rw [Nat.add_zero] at hc
  have hP := rparse_at (getD_zero hx) (by omega)
  have hB0 : Below w.heap.size w (w.alloc (.cells zeroRC 36)) := (Below.refl _ _).alloc (Nat.le_refl _) _
  have HS0 := Lib.hid ((hS.below hB0 (Nat.le_refl _)).more hB0.size)
  have hrb : RepBlock (w.alloc (.cells zeroRC 36)) w.heap.size := ⟨_, _, _, _, _, _, heap_alloc_new w _⟩
  have hcx : (w.alloc (.cells zeroRC 36)).cell? ⟨b, off, none⟩ = some (b8 x) := (hB0.cell (p := ⟨b, off, none⟩) hb).trans hc
  have hlt : w.heap.size < (w.alloc (.cells zeroRC 36)).heap.size := by simp
  have HX := Lib.hid (And.intro hB0 (And.intro hrb hlt))
  have hko := fun W => kindOf_any x W
  clear hS hl hx hc hB0 hrb hlt
  cases hk : kindOfN x.toNat with
  | none =>
    rw [hk] at hP
    simp only [hk] at hko
    unfold kindRes at hko
    have HP := Lib.hid hP
    have HKO := Lib.hid hko
    clear hk hP hko HX HS0
    go_enter Try.func20, Try.ntmps20
    go_wp2_with fail
    refine (HKO.out _).mono ?_
    rintro e w1 ⟨rfl, rfl⟩
    go_wp2_with fail
    exact bodyPost_ret (v := .tuple #[.agg zeroRC, .int .i64 13]) (results_cell_row_tmp rfl _ _ w.heap.size 36 zeroRC (0, 0) _ rfl (heap_alloc_new w _) Try.underlying36 rfl (by kernel_rfl) _ rfl) rfl (rparsed_none HP.out ((Below.refl _ _).alloc (Nat.le_refl _) _))
  | some k =>
    rw [hk] at hP
    simp only at hP
    simp only [hk] at hko
    cases k with
    | exc =>
      unfold kindRes kindV at hko
      have HKO := Lib.hid hko
      have hm := m_exc_read
      have hm2 := m_exc_right
      have HRD := Lib.hid (exc_read (some ⟨b, off, none⟩) n c l _ HS0.out)
      generalize hro : readK .exc l = ro at *
      have HP := Lib.hid hP
      clear hro hP hko hk HS0
      go_enter Try.func20, Try.ntmps20
      go_wp2_with fail
      refine (HKO.out _).mono ?_
      rintro e w1 ⟨rfl, rfl⟩
      go_wp2_with fail
      refine HRD.out.mono ?_
      rintro e w1 ⟨aw, cw, ab, cb, rfl, hA, hb2, hfr⟩
      have HRB := Lib.hid (HX.out.2.1.below hb2 HX.out.2.2)
      have HW1 := Lib.hid (HX.out.1.trans (hb2.mono HX.out.1.size))
      have HZ1 := Lib.hid (Nat.lt_of_lt_of_le HX.out.2.2 hb2.size)
      have HA1 := Lib.hid hA
      have HFR := Lib.hid hfr
      clear hA hb2 hfr HRD HKO hcx
      cases ro with
      | none =>
        simp only [Option.getD_none, Option.isSome_none, repV, zeroR, List.length_nil, b8, b16, UInt8.toNat_ofNat, UInt16.toNat_ofNat, Nat.zero_mod, Int.cast_ofNat_Int]
        have RB := Lib.hid (HRB.out.below ((Below.refl w1.heap.size w1).alloc (Nat.le_refl _) (.cells #[.int .u8 0, .int .u8 0, .slice ab 0 cb, .slice aw 0 cw, .int .u16 0, .int .u16 0] 36)) HZ1.out)
        have hz0 := RB.out.frozen
        obtain ⟨v0, hv0⟩ := RB.out.cell 0 (by omega)
        obtain ⟨v1, hv1⟩ := RB.out.cell 1 (by omega)
        obtain ⟨v2, hv2⟩ := RB.out.cell 2 (by omega)
        obtain ⟨v3, hv3⟩ := RB.out.cell 3 (by omega)
        obtain ⟨v4, hv4⟩ := RB.out.cell 4 (by omega)
        obtain ⟨v5, hv5⟩ := RB.out.cell 5 (by omega)
        have HE := set_end (w := w) RB.out (HW1.out.alloc HW1.out.size _) (Nat.le_refl _) (.int .u8 0) (.int .u8 0) (.slice none 0 0) (.slice none 0 0) (.int .u16 0) (.int .u16 0)
        unfold setAll at HE
        have HE2 := Lib.hid HE
        clear HE
        go_wp2_with fail
        exact bodyPost_ret (v := .tuple #[.agg zeroRC, .int .i64 13]) (results_cell_row_tmp rfl _ _ w.heap.size 36 _ (0, 0) _ rfl HE2.out.1 Try.underlying36 rfl (by kernel_rfl) _ rfl) rfl (rparsed_none HP.out HE2.out.2)
      | some q =>
        obtain ⟨f1, x1, b1, s1, a1, m1⟩ := q
        simp only [Option.getD_some, Option.isSome_some, repV] at *
        obtain ⟨z, hz⟩ : ∃ z, rightK .exc ⟨f1, x1, b1, s1, a1, m1⟩ = z := ⟨_, rfl⟩
        have HZ := Lib.hid hz
        have hbx := (Below.refl w1.heap.size w1).alloc (Nat.le_refl _) (.cells #[b8 f1, b8 x1, .slice ab b1.length cb, .slice aw s1.length cw, b16 a1, b16 m1] 36)
        have HA2 := Lib.hid (HA1.out.below hbx)
        have HRB2 := Lib.hid (HRB.out.below hbx HZ1.out)
        have HQ2 := Lib.hid (heap_alloc_new w1 (.cells #[b8 f1, b8 x1, .slice ab b1.length cb, .slice aw s1.length cw, b16 a1, b16 m1] 36))
        have HW2 := Lib.hid (HW1.out.alloc HW1.out.size (.cells #[b8 f1, b8 x1, .slice ab b1.length cb, .slice aw s1.length cw, b16 a1, b16 m1] 36))
        clear hz hbx HA1 HRB
        go_wp2_with fail
        refine (exc_right ⟨f1, x1, b1, s1, a1, m1⟩ aw cw ab cb _ HA2.out).mono ?_
        rw [HZ.out]
        rintro e w3 ⟨rfl, hb3⟩
        have RB := Lib.hid (HRB2.out.below hb3 (by have := HZ1.out; simp; omega))
        have HA3 := Lib.hid (HA2.out.below hb3)
        have HW3 := Lib.hid (HW2.out.trans (hb3.mono HW2.out.size))
        have hq3 := (hb3.block _ (by simp)).trans HQ2.out
        have hcq := fun i => cell_of_row _ _ i _ _ _ hq3
        have hz0 := RB.out.frozen
        obtain ⟨v0, hv0⟩ := RB.out.cell 0 (by omega)
        obtain ⟨v1, hv1⟩ := RB.out.cell 1 (by omega)
        obtain ⟨v2, hv2⟩ := RB.out.cell 2 (by omega)
        obtain ⟨v3, hv3⟩ := RB.out.cell 3 (by omega)
        obtain ⟨v4, hv4⟩ := RB.out.cell 4 (by omega)
        obtain ⟨v5, hv5⟩ := RB.out.cell 5 (by omega)
        clear hb3 hq3 HA2 HRB2 HQ2 HW2
        cases z
        · have HE := set_end (w := w) RB.out HW3.out (Nat.le_refl _) (.int .u8 0) (.int .u8 0) (.slice none 0 0) (.slice none 0 0) (.int .u16 0) (.int .u16 0)
          unfold setAll at HE
          have HE2 := Lib.hid HE
          clear HE
          go_wp2_with fail
          exact bodyPost_ret (v := .tuple #[.agg zeroRC, .int .i64 13]) (results_cell_row_tmp rfl _ _ w.heap.size 36 _ (0, 0) _ rfl HE2.out.1 Try.underlying36 rfl (by kernel_rfl) _ rfl) rfl (rparsed_none (by rw [HP.out]; unfold afterN; simp only; rw [HZ.out]; rfl) HE2.out.2)
        · have HE := set_put (w := w) (q := ⟨f1, x1, b1, s1, a1, m1⟩) RB.out HW3.out (Nat.le_refl _) HA3.out (fun y hy => by have := HFR.out y hy; simp at this; omega)
          unfold setAll at HE
          have HE2 := Lib.hid HE
          clear HE
          go_wp2_with fail
          exact bodyPost_ret (v := .tuple #[repV ⟨f1, x1, b1, s1, a1, m1⟩ aw cw ab cb, .int .i64 0]) (results_cell_row_tmp rfl _ _ w.heap.size 36 _ (0, 0) _ rfl HE2.out.1 Try.underlying36 rfl (by kernel_rfl) _ rfl) rfl (rparsed_some (by rw [HP.out]; unfold afterN; simp only; rw [HZ.out]; rfl) HE2.out.2.2 HE2.out.2.1 (fun y hy => by have := HFR.out y hy; simp at this; omega))
    | bitsR =>
      unfold kindRes kindV at hko
      have HKO := Lib.hid hko
      have hm := m_bitsR_read
      have hm2 := m_bitsR_right
      have HRD := Lib.hid (bitsR_read (some ⟨b, off, none⟩) n c l _ HS0.out)
      generalize hro : readK .bitsR l = ro at *
      have HP := Lib.hid hP
      clear hro hP hko hk HS0
      go_enter Try.func20, Try.ntmps20
      go_wp2_with fail
      refine (HKO.out _).mono ?_
      rintro e w1 ⟨rfl, rfl⟩
      go_wp2_with fail
      refine HRD.out.mono ?_
      rintro e w1 ⟨aw, cw, ab, cb, rfl, hA, hb2, hfr⟩
      have HRB := Lib.hid (HX.out.2.1.below hb2 HX.out.2.2)
      have HW1 := Lib.hid (HX.out.1.trans (hb2.mono HX.out.1.size))
      have HZ1 := Lib.hid (Nat.lt_of_lt_of_le HX.out.2.2 hb2.size)
      have HA1 := Lib.hid hA
      have HFR := Lib.hid hfr
      clear hA hb2 hfr HRD HKO hcx
      cases ro with
      | none =>
        simp only [Option.getD_none, Option.isSome_none, repV, zeroR, List.length_nil, b8, b16, UInt8.toNat_ofNat, UInt16.toNat_ofNat, Nat.zero_mod, Int.cast_ofNat_Int]
        have RB := Lib.hid (HRB.out.below ((Below.refl w1.heap.size w1).alloc (Nat.le_refl _) (.cells #[.int .u8 0, .int .u8 0, .slice ab 0 cb, .slice aw 0 cw, .int .u16 0, .int .u16 0] 36)) HZ1.out)
        have hz0 := RB.out.frozen
        obtain ⟨v0, hv0⟩ := RB.out.cell 0 (by omega)
        obtain ⟨v1, hv1⟩ := RB.out.cell 1 (by omega)
        obtain ⟨v2, hv2⟩ := RB.out.cell 2 (by omega)
        obtain ⟨v3, hv3⟩ := RB.out.cell 3 (by omega)
        obtain ⟨v4, hv4⟩ := RB.out.cell 4 (by omega)
        obtain ⟨v5, hv5⟩ := RB.out.cell 5 (by omega)
        have HE := set_end (w := w) RB.out (HW1.out.alloc HW1.out.size _) (Nat.le_refl _) (.int .u8 0) (.int .u8 0) (.slice none 0 0) (.slice none 0 0) (.int .u16 0) (.int .u16 0)
        unfold setAll at HE
        have HE2 := Lib.hid HE
        clear HE
        go_wp2_with fail
        exact bodyPost_ret (v := .tuple #[.agg zeroRC, .int .i64 13]) (results_cell_row_tmp rfl _ _ w.heap.size 36 _ (0, 0) _ rfl HE2.out.1 Try.underlying36 rfl (by kernel_rfl) _ rfl) rfl (rparsed_none HP.out HE2.out.2)
      | some q =>
        obtain ⟨f1, x1, b1, s1, a1, m1⟩ := q
        simp only [Option.getD_some, Option.isSome_some, repV] at *
        obtain ⟨z, hz⟩ : ∃ z, rightK .bitsR ⟨f1, x1, b1, s1, a1, m1⟩ = z := ⟨_, rfl⟩
        have HZ := Lib.hid hz
        have hbx := (Below.refl w1.heap.size w1).alloc (Nat.le_refl _) (.cells #[b8 f1, b8 x1, .slice ab b1.length cb, .slice aw s1.length cw, b16 a1, b16 m1] 36)
        have HA2 := Lib.hid (HA1.out.below hbx)
        have HRB2 := Lib.hid (HRB.out.below hbx HZ1.out)
        have HQ2 := Lib.hid (heap_alloc_new w1 (.cells #[b8 f1, b8 x1, .slice ab b1.length cb, .slice aw s1.length cw, b16 a1, b16 m1] 36))
        have HW2 := Lib.hid (HW1.out.alloc HW1.out.size (.cells #[b8 f1, b8 x1, .slice ab b1.length cb, .slice aw s1.length cw, b16 a1, b16 m1] 36))
        clear hz hbx HA1 HRB
        go_wp2_with fail
        refine (bitsR_right ⟨f1, x1, b1, s1, a1, m1⟩ aw cw ab cb _ HA2.out).mono ?_
        rw [HZ.out]
        rintro e w3 ⟨rfl, hb3⟩
        have RB := Lib.hid (HRB2.out.below hb3 (by have := HZ1.out; simp; omega))
        have HA3 := Lib.hid (HA2.out.below hb3)
        have HW3 := Lib.hid (HW2.out.trans (hb3.mono HW2.out.size))
        have hq3 := (hb3.block _ (by simp)).trans HQ2.out
        have hcq := fun i => cell_of_row _ _ i _ _ _ hq3
        have hz0 := RB.out.frozen
        obtain ⟨v0, hv0⟩ := RB.out.cell 0 (by omega)
        obtain ⟨v1, hv1⟩ := RB.out.cell 1 (by omega)
        obtain ⟨v2, hv2⟩ := RB.out.cell 2 (by omega)
        obtain ⟨v3, hv3⟩ := RB.out.cell 3 (by omega)
        obtain ⟨v4, hv4⟩ := RB.out.cell 4 (by omega)
        obtain ⟨v5, hv5⟩ := RB.out.cell 5 (by omega)
        clear hb3 hq3 HA2 HRB2 HQ2 HW2
        cases z
        · have HE := set_end (w := w) RB.out HW3.out (Nat.le_refl _) (.int .u8 0) (.int .u8 0) (.slice none 0 0) (.slice none 0 0) (.int .u16 0) (.int .u16 0)
          unfold setAll at HE
          have HE2 := Lib.hid HE
          clear HE
          go_wp2_with fail
          exact bodyPost_ret (v := .tuple #[.agg zeroRC, .int .i64 13]) (results_cell_row_tmp rfl _ _ w.heap.size 36 _ (0, 0) _ rfl HE2.out.1 Try.underlying36 rfl (by kernel_rfl) _ rfl) rfl (rparsed_none (by rw [HP.out]; unfold afterN; simp only; rw [HZ.out]; rfl) HE2.out.2)
        · have HE := set_put (w := w) (q := ⟨f1, x1, b1, s1, a1, m1⟩) RB.out HW3.out (Nat.le_refl _) HA3.out (fun y hy => by have := HFR.out y hy; simp at this; omega)
          unfold setAll at HE
          have HE2 := Lib.hid HE
          clear HE
          go_wp2_with fail
          exact bodyPost_ret (v := .tuple #[repV ⟨f1, x1, b1, s1, a1, m1⟩ aw cw ab cb, .int .i64 0]) (results_cell_row_tmp rfl _ _ w.heap.size 36 _ (0, 0) _ rfl HE2.out.1 Try.underlying36 rfl (by kernel_rfl) _ rfl) rfl (rparsed_some (by rw [HP.out]; unfold afterN; simp only; rw [HZ.out]; rfl) HE2.out.2.2 HE2.out.2.1 (fun y hy => by have := HFR.out y hy; simp at this; omega))
    | wordsR =>
      unfold kindRes kindV at hko
      have HKO := Lib.hid hko
      have hm := m_wordsR_read
      have hm2 := m_wordsR_right
      have HRD := Lib.hid (wordsR_read (some ⟨b, off, none⟩) n c l _ HS0.out)
      generalize hro : readK .wordsR l = ro at *
      have HP := Lib.hid hP
      clear hro hP hko hk HS0
      go_enter Try.func20, Try.ntmps20
      go_wp2_with fail
      refine (HKO.out _).mono ?_
      rintro e w1 ⟨rfl, rfl⟩
      go_wp2_with fail
      refine HRD.out.mono ?_
      rintro e w1 ⟨aw, cw, ab, cb, rfl, hA, hb2, hfr⟩
      have HRB := Lib.hid (HX.out.2.1.below hb2 HX.out.2.2)
      have HW1 := Lib.hid (HX.out.1.trans (hb2.mono HX.out.1.size))
      have HZ1 := Lib.hid (Nat.lt_of_lt_of_le HX.out.2.2 hb2.size)
      have HA1 := Lib.hid hA
      have HFR := Lib.hid hfr
      clear hA hb2 hfr HRD HKO hcx
      cases ro with
      | none =>
        simp only [Option.getD_none, Option.isSome_none, repV, zeroR, List.length_nil, b8, b16, UInt8.toNat_ofNat, UInt16.toNat_ofNat, Nat.zero_mod, Int.cast_ofNat_Int]
        have RB := Lib.hid (HRB.out.below ((Below.refl w1.heap.size w1).alloc (Nat.le_refl _) (.cells #[.int .u8 0, .int .u8 0, .slice ab 0 cb, .slice aw 0 cw, .int .u16 0, .int .u16 0] 36)) HZ1.out)
        have hz0 := RB.out.frozen
        obtain ⟨v0, hv0⟩ := RB.out.cell 0 (by omega)
        obtain ⟨v1, hv1⟩ := RB.out.cell 1 (by omega)
        obtain ⟨v2, hv2⟩ := RB.out.cell 2 (by omega)
        obtain ⟨v3, hv3⟩ := RB.out.cell 3 (by omega)
        obtain ⟨v4, hv4⟩ := RB.out.cell 4 (by omega)
        obtain ⟨v5, hv5⟩ := RB.out.cell 5 (by omega)
        have HE := set_end (w := w) RB.out (HW1.out.alloc HW1.out.size _) (Nat.le_refl _) (.int .u8 0) (.int .u8 0) (.slice none 0 0) (.slice none 0 0) (.int .u16 0) (.int .u16 0)
        unfold setAll at HE
        have HE2 := Lib.hid HE
        clear HE
        go_wp2_with fail
        exact bodyPost_ret (v := .tuple #[.agg zeroRC, .int .i64 13]) (results_cell_row_tmp rfl _ _ w.heap.size 36 _ (0, 0) _ rfl HE2.out.1 Try.underlying36 rfl (by kernel_rfl) _ rfl) rfl (rparsed_none HP.out HE2.out.2)
      | some q =>
        obtain ⟨f1, x1, b1, s1, a1, m1⟩ := q
        simp only [Option.getD_some, Option.isSome_some, repV] at *
        obtain ⟨z, hz⟩ : ∃ z, rightK .wordsR ⟨f1, x1, b1, s1, a1, m1⟩ = z := ⟨_, rfl⟩
        have HZ := Lib.hid hz
        have hbx := (Below.refl w1.heap.size w1).alloc (Nat.le_refl _) (.cells #[b8 f1, b8 x1, .slice ab b1.length cb, .slice aw s1.length cw, b16 a1, b16 m1] 36)
        have HA2 := Lib.hid (HA1.out.below hbx)
        have HRB2 := Lib.hid (HRB.out.below hbx HZ1.out)
        have HQ2 := Lib.hid (heap_alloc_new w1 (.cells #[b8 f1, b8 x1, .slice ab b1.length cb, .slice aw s1.length cw, b16 a1, b16 m1] 36))
        have HW2 := Lib.hid (HW1.out.alloc HW1.out.size (.cells #[b8 f1, b8 x1, .slice ab b1.length cb, .slice aw s1.length cw, b16 a1, b16 m1] 36))
        clear hz hbx HA1 HRB
        go_wp2_with fail
        refine (wordsR_right ⟨f1, x1, b1, s1, a1, m1⟩ aw cw ab cb _ HA2.out).mono ?_
        rw [HZ.out]
        rintro e w3 ⟨rfl, hb3⟩
        have RB := Lib.hid (HRB2.out.below hb3 (by have := HZ1.out; simp; omega))
        have HA3 := Lib.hid (HA2.out.below hb3)
        have HW3 := Lib.hid (HW2.out.trans (hb3.mono HW2.out.size))
        have hq3 := (hb3.block _ (by simp)).trans HQ2.out
        have hcq := fun i => cell_of_row _ _ i _ _ _ hq3
        have hz0 := RB.out.frozen
        obtain ⟨v0, hv0⟩ := RB.out.cell 0 (by omega)
        obtain ⟨v1, hv1⟩ := RB.out.cell 1 (by omega)
        obtain ⟨v2, hv2⟩ := RB.out.cell 2 (by omega)
        obtain ⟨v3, hv3⟩ := RB.out.cell 3 (by omega)
        obtain ⟨v4, hv4⟩ := RB.out.cell 4 (by omega)
        obtain ⟨v5, hv5⟩ := RB.out.cell 5 (by omega)
        clear hb3 hq3 HA2 HRB2 HQ2 HW2
        cases z
        · have HE := set_end (w := w) RB.out HW3.out (Nat.le_refl _) (.int .u8 0) (.int .u8 0) (.slice none 0 0) (.slice none 0 0) (.int .u16 0) (.int .u16 0)
          unfold setAll at HE
          have HE2 := Lib.hid HE
          clear HE
          go_wp2_with fail
          exact bodyPost_ret (v := .tuple #[.agg zeroRC, .int .i64 13]) (results_cell_row_tmp rfl _ _ w.heap.size 36 _ (0, 0) _ rfl HE2.out.1 Try.underlying36 rfl (by kernel_rfl) _ rfl) rfl (rparsed_none (by rw [HP.out]; unfold afterN; simp only; rw [HZ.out]; rfl) HE2.out.2)
        · have HE := set_put (w := w) (q := ⟨f1, x1, b1, s1, a1, m1⟩) RB.out HW3.out (Nat.le_refl _) HA3.out (fun y hy => by have := HFR.out y hy; simp at this; omega)
          unfold setAll at HE
          have HE2 := Lib.hid HE
          clear HE
          go_wp2_with fail
          exact bodyPost_ret (v := .tuple #[repV ⟨f1, x1, b1, s1, a1, m1⟩ aw cw ab cb, .int .i64 0]) (results_cell_row_tmp rfl _ _ w.heap.size 36 _ (0, 0) _ rfl HE2.out.1 Try.underlying36 rfl (by kernel_rfl) _ rfl) rfl (rparsed_some (by rw [HP.out]; unfold afterN; simp only; rw [HZ.out]; rfl) HE2.out.2.2 HE2.out.2.1 (fun y hy => by have := HFR.out y hy; simp at this; omega))
    | bitW =>
      unfold kindRes kindV at hko
      have HKO := Lib.hid hko
      have hm := m_bitW_read
      have hm2 := m_bitW_right
      have HRD := Lib.hid (bitW_read (some ⟨b, off, none⟩) n c l _ HS0.out)
      generalize hro : readK .bitW l = ro at *
      have HP := Lib.hid hP
      clear hro hP hko hk HS0
      go_enter Try.func20, Try.ntmps20
      go_wp2_with fail
      refine (HKO.out _).mono ?_
      rintro e w1 ⟨rfl, rfl⟩
      go_wp2_with fail
      refine HRD.out.mono ?_
      rintro e w1 ⟨aw, cw, ab, cb, rfl, hA, hb2, hfr⟩
      have HRB := Lib.hid (HX.out.2.1.below hb2 HX.out.2.2)
      have HW1 := Lib.hid (HX.out.1.trans (hb2.mono HX.out.1.size))
      have HZ1 := Lib.hid (Nat.lt_of_lt_of_le HX.out.2.2 hb2.size)
      have HA1 := Lib.hid hA
      have HFR := Lib.hid hfr
      clear hA hb2 hfr HRD HKO hcx
      cases ro with
      | none =>
        simp only [Option.getD_none, Option.isSome_none, repV, zeroR, List.length_nil, b8, b16, UInt8.toNat_ofNat, UInt16.toNat_ofNat, Nat.zero_mod, Int.cast_ofNat_Int]
        have RB := Lib.hid (HRB.out.below ((Below.refl w1.heap.size w1).alloc (Nat.le_refl _) (.cells #[.int .u8 0, .int .u8 0, .slice ab 0 cb, .slice aw 0 cw, .int .u16 0, .int .u16 0] 36)) HZ1.out)
        have hz0 := RB.out.frozen
        obtain ⟨v0, hv0⟩ := RB.out.cell 0 (by omega)
        obtain ⟨v1, hv1⟩ := RB.out.cell 1 (by omega)
        obtain ⟨v2, hv2⟩ := RB.out.cell 2 (by omega)
        obtain ⟨v3, hv3⟩ := RB.out.cell 3 (by omega)
        obtain ⟨v4, hv4⟩ := RB.out.cell 4 (by omega)
        obtain ⟨v5, hv5⟩ := RB.out.cell 5 (by omega)
        have HE := set_end (w := w) RB.out (HW1.out.alloc HW1.out.size _) (Nat.le_refl _) (.int .u8 0) (.int .u8 0) (.slice none 0 0) (.slice none 0 0) (.int .u16 0) (.int .u16 0)
        unfold setAll at HE
        have HE2 := Lib.hid HE
        clear HE
        go_wp2_with fail
        exact bodyPost_ret (v := .tuple #[.agg zeroRC, .int .i64 13]) (results_cell_row_tmp rfl _ _ w.heap.size 36 _ (0, 0) _ rfl HE2.out.1 Try.underlying36 rfl (by kernel_rfl) _ rfl) rfl (rparsed_none HP.out HE2.out.2)
      | some q =>
        obtain ⟨f1, x1, b1, s1, a1, m1⟩ := q
        simp only [Option.getD_some, Option.isSome_some, repV] at *
        obtain ⟨z, hz⟩ : ∃ z, rightK .bitW ⟨f1, x1, b1, s1, a1, m1⟩ = z := ⟨_, rfl⟩
        have HZ := Lib.hid hz
        have hbx := (Below.refl w1.heap.size w1).alloc (Nat.le_refl _) (.cells #[b8 f1, b8 x1, .slice ab b1.length cb, .slice aw s1.length cw, b16 a1, b16 m1] 36)
        have HA2 := Lib.hid (HA1.out.below hbx)
        have HRB2 := Lib.hid (HRB.out.below hbx HZ1.out)
        have HQ2 := Lib.hid (heap_alloc_new w1 (.cells #[b8 f1, b8 x1, .slice ab b1.length cb, .slice aw s1.length cw, b16 a1, b16 m1] 36))
        have HW2 := Lib.hid (HW1.out.alloc HW1.out.size (.cells #[b8 f1, b8 x1, .slice ab b1.length cb, .slice aw s1.length cw, b16 a1, b16 m1] 36))
        clear hz hbx HA1 HRB
        go_wp2_with fail
        refine (bitW_right ⟨f1, x1, b1, s1, a1, m1⟩ aw cw ab cb _ HA2.out).mono ?_
        rw [HZ.out]
        rintro e w3 ⟨rfl, hb3⟩
        have RB := Lib.hid (HRB2.out.below hb3 (by have := HZ1.out; simp; omega))
        have HA3 := Lib.hid (HA2.out.below hb3)
        have HW3 := Lib.hid (HW2.out.trans (hb3.mono HW2.out.size))
        have hq3 := (hb3.block _ (by simp)).trans HQ2.out
        have hcq := fun i => cell_of_row _ _ i _ _ _ hq3
        have hz0 := RB.out.frozen
        obtain ⟨v0, hv0⟩ := RB.out.cell 0 (by omega)
        obtain ⟨v1, hv1⟩ := RB.out.cell 1 (by omega)
        obtain ⟨v2, hv2⟩ := RB.out.cell 2 (by omega)
        obtain ⟨v3, hv3⟩ := RB.out.cell 3 (by omega)
        obtain ⟨v4, hv4⟩ := RB.out.cell 4 (by omega)
        obtain ⟨v5, hv5⟩ := RB.out.cell 5 (by omega)
        clear hb3 hq3 HA2 HRB2 HQ2 HW2
        cases z
        · have HE := set_end (w := w) RB.out HW3.out (Nat.le_refl _) (.int .u8 0) (.int .u8 0) (.slice none 0 0) (.slice none 0 0) (.int .u16 0) (.int .u16 0)
          unfold setAll at HE
          have HE2 := Lib.hid HE
          clear HE
          go_wp2_with fail
          exact bodyPost_ret (v := .tuple #[.agg zeroRC, .int .i64 13]) (results_cell_row_tmp rfl _ _ w.heap.size 36 _ (0, 0) _ rfl HE2.out.1 Try.underlying36 rfl (by kernel_rfl) _ rfl) rfl (rparsed_none (by rw [HP.out]; unfold afterN; simp only; rw [HZ.out]; rfl) HE2.out.2)
        · have HE := set_put (w := w) (q := ⟨f1, x1, b1, s1, a1, m1⟩) RB.out HW3.out (Nat.le_refl _) HA3.out (fun y hy => by have := HFR.out y hy; simp at this; omega)
          unfold setAll at HE
          have HE2 := Lib.hid HE
          clear HE
          go_wp2_with fail
          exact bodyPost_ret (v := .tuple #[repV ⟨f1, x1, b1, s1, a1, m1⟩ aw cw ab cb, .int .i64 0]) (results_cell_row_tmp rfl _ _ w.heap.size 36 _ (0, 0) _ rfl HE2.out.1 Try.underlying36 rfl (by kernel_rfl) _ rfl) rfl (rparsed_some (by rw [HP.out]; unfold afterN; simp only; rw [HZ.out]; rfl) HE2.out.2.2 HE2.out.2.1 (fun y hy => by have := HFR.out y hy; simp at this; omega))
    | wordW =>
      unfold kindRes kindV at hko
      have HKO := Lib.hid hko
      have hm := m_wordW_read
      have hm2 := m_wordW_right
      have HRD := Lib.hid (wordW_read (some ⟨b, off, none⟩) n c l _ HS0.out)
      generalize hro : readK .wordW l = ro at *
      have HP := Lib.hid hP
      clear hro hP hko hk HS0
      go_enter Try.func20, Try.ntmps20
      go_wp2_with fail
      refine (HKO.out _).mono ?_
      rintro e w1 ⟨rfl, rfl⟩
      go_wp2_with fail
      refine HRD.out.mono ?_
      rintro e w1 ⟨aw, cw, ab, cb, rfl, hA, hb2, hfr⟩
      have HRB := Lib.hid (HX.out.2.1.below hb2 HX.out.2.2)
      have HW1 := Lib.hid (HX.out.1.trans (hb2.mono HX.out.1.size))
      have HZ1 := Lib.hid (Nat.lt_of_lt_of_le HX.out.2.2 hb2.size)
      have HA1 := Lib.hid hA
      have HFR := Lib.hid hfr
      clear hA hb2 hfr HRD HKO hcx
      cases ro with
      | none =>
        simp only [Option.getD_none, Option.isSome_none, repV, zeroR, List.length_nil, b8, b16, UInt8.toNat_ofNat, UInt16.toNat_ofNat, Nat.zero_mod, Int.cast_ofNat_Int]
        have RB := Lib.hid (HRB.out.below ((Below.refl w1.heap.size w1).alloc (Nat.le_refl _) (.cells #[.int .u8 0, .int .u8 0, .slice ab 0 cb, .slice aw 0 cw, .int .u16 0, .int .u16 0] 36)) HZ1.out)
        have hz0 := RB.out.frozen
        obtain ⟨v0, hv0⟩ := RB.out.cell 0 (by omega)
        obtain ⟨v1, hv1⟩ := RB.out.cell 1 (by omega)
        obtain ⟨v2, hv2⟩ := RB.out.cell 2 (by omega)
        obtain ⟨v3, hv3⟩ := RB.out.cell 3 (by omega)
        obtain ⟨v4, hv4⟩ := RB.out.cell 4 (by omega)
        obtain ⟨v5, hv5⟩ := RB.out.cell 5 (by omega)
        have HE := set_end (w := w) RB.out (HW1.out.alloc HW1.out.size _) (Nat.le_refl _) (.int .u8 0) (.int .u8 0) (.slice none 0 0) (.slice none 0 0) (.int .u16 0) (.int .u16 0)
        unfold setAll at HE
        have HE2 := Lib.hid HE
        clear HE
        go_wp2_with fail
        exact bodyPost_ret (v := .tuple #[.agg zeroRC, .int .i64 13]) (results_cell_row_tmp rfl _ _ w.heap.size 36 _ (0, 0) _ rfl HE2.out.1 Try.underlying36 rfl (by kernel_rfl) _ rfl) rfl (rparsed_none HP.out HE2.out.2)
      | some q =>
        obtain ⟨f1, x1, b1, s1, a1, m1⟩ := q
        simp only [Option.getD_some, Option.isSome_some, repV] at *
        obtain ⟨z, hz⟩ : ∃ z, rightK .wordW ⟨f1, x1, b1, s1, a1, m1⟩ = z := ⟨_, rfl⟩
        have HZ := Lib.hid hz
        have hbx := (Below.refl w1.heap.size w1).alloc (Nat.le_refl _) (.cells #[b8 f1, b8 x1, .slice ab b1.length cb, .slice aw s1.length cw, b16 a1, b16 m1] 36)
        have HA2 := Lib.hid (HA1.out.below hbx)
        have HRB2 := Lib.hid (HRB.out.below hbx HZ1.out)
        have HQ2 := Lib.hid (heap_alloc_new w1 (.cells #[b8 f1, b8 x1, .slice ab b1.length cb, .slice aw s1.length cw, b16 a1, b16 m1] 36))
        have HW2 := Lib.hid (HW1.out.alloc HW1.out.size (.cells #[b8 f1, b8 x1, .slice ab b1.length cb, .slice aw s1.length cw, b16 a1, b16 m1] 36))
        clear hz hbx HA1 HRB
        go_wp2_with fail
        refine (wordW_right ⟨f1, x1, b1, s1, a1, m1⟩ aw cw ab cb _ HA2.out).mono ?_
        rw [HZ.out]
        rintro e w3 ⟨rfl, hb3⟩
        have RB := Lib.hid (HRB2.out.below hb3 (by have := HZ1.out; simp; omega))
        have HA3 := Lib.hid (HA2.out.below hb3)
        have HW3 := Lib.hid (HW2.out.trans (hb3.mono HW2.out.size))
        have hq3 := (hb3.block _ (by simp)).trans HQ2.out
        have hcq := fun i => cell_of_row _ _ i _ _ _ hq3
        have hz0 := RB.out.frozen
        obtain ⟨v0, hv0⟩ := RB.out.cell 0 (by omega)
        obtain ⟨v1, hv1⟩ := RB.out.cell 1 (by omega)
        obtain ⟨v2, hv2⟩ := RB.out.cell 2 (by omega)
        obtain ⟨v3, hv3⟩ := RB.out.cell 3 (by omega)
        obtain ⟨v4, hv4⟩ := RB.out.cell 4 (by omega)
        obtain ⟨v5, hv5⟩ := RB.out.cell 5 (by omega)
        clear hb3 hq3 HA2 HRB2 HQ2 HW2
        cases z
        · have HE := set_end (w := w) RB.out HW3.out (Nat.le_refl _) (.int .u8 0) (.int .u8 0) (.slice none 0 0) (.slice none 0 0) (.int .u16 0) (.int .u16 0)
          unfold setAll at HE
          have HE2 := Lib.hid HE
          clear HE
          go_wp2_with fail
          exact bodyPost_ret (v := .tuple #[.agg zeroRC, .int .i64 13]) (results_cell_row_tmp rfl _ _ w.heap.size 36 _ (0, 0) _ rfl HE2.out.1 Try.underlying36 rfl (by kernel_rfl) _ rfl) rfl (rparsed_none (by rw [HP.out]; unfold afterN; simp only; rw [HZ.out]; rfl) HE2.out.2)
        · have HE := set_put (w := w) (q := ⟨f1, x1, b1, s1, a1, m1⟩) RB.out HW3.out (Nat.le_refl _) HA3.out (fun y hy => by have := HFR.out y hy; simp at this; omega)
          unfold setAll at HE
          have HE2 := Lib.hid HE
          clear HE
          go_wp2_with fail
          exact bodyPost_ret (v := .tuple #[repV ⟨f1, x1, b1, s1, a1, m1⟩ aw cw ab cb, .int .i64 0]) (results_cell_row_tmp rfl _ _ w.heap.size 36 _ (0, 0) _ rfl HE2.out.1 Try.underlying36 rfl (by kernel_rfl) _ rfl) rfl (rparsed_some (by rw [HP.out]; unfold afterN; simp only; rw [HZ.out]; rfl) HE2.out.2.2 HE2.out.2.1 (fun y hy => by have := HFR.out y hy; simp at this; omega))
    | listW M =>
      unfold kindRes kindV at hko
      have HKO := Lib.hid hko
      have hm := m_listW_read M
      have hm2 := m_listW_right M
      have HRD := Lib.hid (listW_read M (some ⟨b, off, none⟩) n c l _ HS0.out)
      generalize hro : readK (.listW M) l = ro at *
      have HP := Lib.hid hP
      clear hro hP hko hk HS0
      go_enter Try.func20, Try.ntmps20
      go_wp2_with fail
      refine (HKO.out _).mono ?_
      rintro e w1 ⟨rfl, rfl⟩
      go_wp2_with fail
      refine HRD.out.mono ?_
      rintro e w1 ⟨aw, cw, ab, cb, rfl, hA, hb2, hfr⟩
      have HRB := Lib.hid (HX.out.2.1.below hb2 HX.out.2.2)
      have HW1 := Lib.hid (HX.out.1.trans (hb2.mono HX.out.1.size))
      have HZ1 := Lib.hid (Nat.lt_of_lt_of_le HX.out.2.2 hb2.size)
      have HA1 := Lib.hid hA
      have HFR := Lib.hid hfr
      clear hA hb2 hfr HRD HKO hcx
      cases ro with
      | none =>
        simp only [Option.getD_none, Option.isSome_none, repV, zeroR, List.length_nil, b8, b16, UInt8.toNat_ofNat, UInt16.toNat_ofNat, Nat.zero_mod, Int.cast_ofNat_Int]
        have RB := Lib.hid (HRB.out.below ((Below.refl w1.heap.size w1).alloc (Nat.le_refl _) (.cells #[.int .u8 0, .int .u8 0, .slice ab 0 cb, .slice aw 0 cw, .int .u16 0, .int .u16 0] 36)) HZ1.out)
        have hz0 := RB.out.frozen
        obtain ⟨v0, hv0⟩ := RB.out.cell 0 (by omega)
        obtain ⟨v1, hv1⟩ := RB.out.cell 1 (by omega)
        obtain ⟨v2, hv2⟩ := RB.out.cell 2 (by omega)
        obtain ⟨v3, hv3⟩ := RB.out.cell 3 (by omega)
        obtain ⟨v4, hv4⟩ := RB.out.cell 4 (by omega)
        obtain ⟨v5, hv5⟩ := RB.out.cell 5 (by omega)
        have HE := set_end (w := w) RB.out (HW1.out.alloc HW1.out.size _) (Nat.le_refl _) (.int .u8 0) (.int .u8 0) (.slice none 0 0) (.slice none 0 0) (.int .u16 0) (.int .u16 0)
        unfold setAll at HE
        have HE2 := Lib.hid HE
        clear HE
        go_wp2_with fail
        exact bodyPost_ret (v := .tuple #[.agg zeroRC, .int .i64 13]) (results_cell_row_tmp rfl _ _ w.heap.size 36 _ (0, 0) _ rfl HE2.out.1 Try.underlying36 rfl (by kernel_rfl) _ rfl) rfl (rparsed_none HP.out HE2.out.2)
      | some q =>
        obtain ⟨f1, x1, b1, s1, a1, m1⟩ := q
        simp only [Option.getD_some, Option.isSome_some, repV] at *
        obtain ⟨z, hz⟩ : ∃ z, rightK (.listW M) ⟨f1, x1, b1, s1, a1, m1⟩ = z := ⟨_, rfl⟩
        have HZ := Lib.hid hz
        have hbx := (Below.refl w1.heap.size w1).alloc (Nat.le_refl _) (.cells #[b8 f1, b8 x1, .slice ab b1.length cb, .slice aw s1.length cw, b16 a1, b16 m1] 36)
        have HA2 := Lib.hid (HA1.out.below hbx)
        have HRB2 := Lib.hid (HRB.out.below hbx HZ1.out)
        have HQ2 := Lib.hid (heap_alloc_new w1 (.cells #[b8 f1, b8 x1, .slice ab b1.length cb, .slice aw s1.length cw, b16 a1, b16 m1] 36))
        have HW2 := Lib.hid (HW1.out.alloc HW1.out.size (.cells #[b8 f1, b8 x1, .slice ab b1.length cb, .slice aw s1.length cw, b16 a1, b16 m1] 36))
        clear hz hbx HA1 HRB
        go_wp2_with fail
        refine (listW_right ⟨f1, x1, b1, s1, a1, m1⟩ M aw cw ab cb _ HA2.out).mono ?_
        rw [HZ.out]
        rintro e w3 ⟨rfl, hb3⟩
        have RB := Lib.hid (HRB2.out.below hb3 (by have := HZ1.out; simp; omega))
        have HA3 := Lib.hid (HA2.out.below hb3)
        have HW3 := Lib.hid (HW2.out.trans (hb3.mono HW2.out.size))
        have hq3 := (hb3.block _ (by simp)).trans HQ2.out
        have hcq := fun i => cell_of_row _ _ i _ _ _ hq3
        have hz0 := RB.out.frozen
        obtain ⟨v0, hv0⟩ := RB.out.cell 0 (by omega)
        obtain ⟨v1, hv1⟩ := RB.out.cell 1 (by omega)
        obtain ⟨v2, hv2⟩ := RB.out.cell 2 (by omega)
        obtain ⟨v3, hv3⟩ := RB.out.cell 3 (by omega)
        obtain ⟨v4, hv4⟩ := RB.out.cell 4 (by omega)
        obtain ⟨v5, hv5⟩ := RB.out.cell 5 (by omega)
        clear hb3 hq3 HA2 HRB2 HQ2 HW2
        cases z
        · have HE := set_end (w := w) RB.out HW3.out (Nat.le_refl _) (.int .u8 0) (.int .u8 0) (.slice none 0 0) (.slice none 0 0) (.int .u16 0) (.int .u16 0)
          unfold setAll at HE
          have HE2 := Lib.hid HE
          clear HE
          go_wp2_with fail
          exact bodyPost_ret (v := .tuple #[.agg zeroRC, .int .i64 13]) (results_cell_row_tmp rfl _ _ w.heap.size 36 _ (0, 0) _ rfl HE2.out.1 Try.underlying36 rfl (by kernel_rfl) _ rfl) rfl (rparsed_none (by rw [HP.out]; unfold afterN; simp only; rw [HZ.out]; rfl) HE2.out.2)
        · have HE := set_put (w := w) (q := ⟨f1, x1, b1, s1, a1, m1⟩) RB.out HW3.out (Nat.le_refl _) HA3.out (fun y hy => by have := HFR.out y hy; simp at this; omega)
          unfold setAll at HE
          have HE2 := Lib.hid HE
          clear HE
          go_wp2_with fail
          exact bodyPost_ret (v := .tuple #[repV ⟨f1, x1, b1, s1, a1, m1⟩ aw cw ab cb, .int .i64 0]) (results_cell_row_tmp rfl _ _ w.heap.size 36 _ (0, 0) _ rfl HE2.out.1 Try.underlying36 rfl (by kernel_rfl) _ rfl) rfl (rparsed_some (by rw [HP.out]; unfold afterN; simp only; rw [HZ.out]; rfl) HE2.out.2.2 HE2.out.2.1 (fun y hy => by have := HFR.out y hy; simp at this; omega))
end Go.Proofs.Ytamdpinfbadflaa.ReplyW
