/- Bytes of package reply. -/
import Derived.Test.YtamdpinfbadflaaReplyInv
open Go.RowKit
namespace Go.Proofs.Ytamdpinfbadflaa.ReplyW
open AskM ReplyM AskW Mem

/-- The call answers bytes, or 13. -/
def RGives (o : Option (List UInt8)) (w : World) (e : Ending) (w' : World) : Prop :=
  match o with
  | some b => ∃ a c, e = .returned (.tuple #[.slice a b.length c, .int .i64 0]) ∧ Sl b8 w' w'.heap.size a b.length c b ∧ Below w.heap.size w w' ∧ ∀ x : Addr, a = some x → w.heap.size ≤ x.block
  | none => e = .returned (.tuple #[.slice none 0 0, .int .i64 13]) ∧ Below w.heap.size w w'
theorem rgives_none {o : Option (List UInt8)} {w w' : World} (ho : o = none) (h : Below w.heap.size w w') : RGives o w (.returned (.tuple #[.slice none 0 0, .int .i64 13])) w' := by subst ho; exact ⟨rfl, h⟩
theorem rgives_some {o : Option (List UInt8)} {b : List UInt8} {w w' : World} {a : Option Addr} {n c : Nat} (ho : o = some b) (hs : Sl b8 w' w'.heap.size a n c b) (h : Below w.heap.size w w') (hx : ∀ x : Addr, a = some x → w.heap.size ≤ x.block) : RGives o w (.returned (.tuple #[.slice a n c, .int .i64 0])) w' := by
  subst ho
  obtain rfl := hs.len
  exact ⟨a, c, rfl, hs, h, hx⟩
theorem exc_small {r : Rep} (h : rightK .exc r = true) : r.fn.toNat < 128 := by
  obtain ⟨_, ho⟩ := rightK_iff.1 h
  have := congrArg (fun q => q.fn.toNat) ho
  simp only [onlyK, wrongN, UInt8.toNat_mod] at this
  have h2 : r.fn.toNat = r.fn.toNat % 128 := this
  omega
theorem bitsR_small {r : Rep} (h : rightK .bitsR r = true) : r.bits.length ≤ 2000 := by
  obtain ⟨hc, _⟩ := rightK_iff.1 h
  simp [countK] at hc; omega
theorem wordsR_small {r : Rep} (h : rightK .wordsR r = true) : r.words.length ≤ 125 := by
  obtain ⟨hc, _⟩ := rightK_iff.1 h
  simp [countK] at hc; omega
theorem bitW_small {r : Rep} (h : rightK .bitW r = true) : r.bits.length = 1 := by
  obtain ⟨hc, _⟩ := rightK_iff.1 h
  simpa [countK] using hc
theorem wordW_small {r : Rep} (h : rightK .wordW r = true) : r.words.length = 1 := by
  obtain ⟨hc, _⟩ := rightK_iff.1 h
  simpa [countK] using hc
set_option maxRecDepth 100000 in
set_option maxHeartbeats 16000000 in
theorem RBytes_any (r : Rep) (aw : Option Addr) (cw : Nat) (ab : Option Addr) (cb : Nat) (w : World) (hA : RepAt w w.heap.size r aw cw ab cb) (_hw : r.words.length ≤ 1000000) (_hb : r.bits.length ≤ 1000000) :
    Calls Try.prog 58 #[repV r aw cw ab cb] w (RGives (rbytesN r) w) := by
  clear _hw _hb
  have hbox := Box1.new w #[b8 r.fn, b8 r.ex, .slice ab r.bits.length cb, .slice aw r.words.length cw, b16 r.at_, b16 r.many] 36
  have hA1 := hA.below hbox.below
  have HB := Lib.hid hbox
  have HA := Lib.hid hA1
  have HKF := Lib.hid (kindFor_any r aw cw ab cb (w.alloc (.cells #[b8 r.fn, b8 r.ex, .slice ab r.bits.length cb, .slice aw r.words.length cw, b16 r.at_, b16 r.many] 36)))
  clear hA hA1 hbox
  obtain ⟨f1, x1, b1, s1, a1, m1⟩ := r
  cases hk : kindForN ⟨f1, x1, b1, s1, a1, m1⟩ with
  | none =>
    rw [hk] at HKF
    have HR : Hid (rbytesN ⟨f1, x1, b1, s1, a1, m1⟩ = none) := Lib.hid (by unfold rbytesN; rw [hk])
    unfold kindRes at HKF
    clear hk
    go_enter Try.func58, Try.ntmps58
    go_wp2_with fail
    refine HKF.out.mono ?_
    rintro e w1 ⟨rfl, hb⟩
    have HW1 := Lib.hid (HB.out.on hb).below
    clear hb HKF
    go_wp2_with fail
    go_ret2
    exact rgives_none HR.out HW1.out
  | some k =>
    rw [hk] at HKF
    cases k with
    | exc =>
      unfold kindRes kindV at HKF
      obtain ⟨z, hz⟩ : ∃ z, rightK .exc ⟨f1, x1, b1, s1, a1, m1⟩ = z := ⟨_, rfl⟩
      have HR : Hid (rbytesN ⟨f1, x1, b1, s1, a1, m1⟩ = if z = true then some (writeK .exc ⟨f1, x1, b1, s1, a1, m1⟩) else none) := Lib.hid (by unfold rbytesN; rw [hk, ← hz])
      have HZ0 := Lib.hid hz
      have hm := m_exc_right
      have hm2 := m_exc_write
      clear hk hz
      go_enter Try.func58, Try.ntmps58
      go_wp2_with fail
      refine HKF.out.mono ?_
      rintro e w1 ⟨rfl, hb⟩
      have HB1 := Lib.hid (HB.out.on hb)
      have HA1 := Lib.hid (HA.out.below hb)
      have hc := HB1.out.c
      clear hb HKF
      go_wp2_with fail
      refine (exc_right ⟨f1, x1, b1, s1, a1, m1⟩ aw cw ab cb w1 HA1.out).mono ?_
      rw [HZ0.out]
      rintro e w2 ⟨rfl, hb⟩
      have HB2 := Lib.hid (HB1.out.on hb)
      have HA2 := Lib.hid (HA1.out.below hb)
      clear hb hc HA1
      have hc := HB2.out.c
      cases z
      · go_wp2_with fail
        go_ret2
        exact rgives_none (by rw [HR.out]; rfl) HB2.out.below
      · have HZ : Hid (rightK .exc ⟨f1, x1, b1, s1, a1, m1⟩ = true) := HZ0
        go_wp2_with fail
        refine (exc_write ⟨f1, x1, b1, s1, a1, m1⟩ aw cw ab cb w2 (exc_small HZ.out)).mono ?_
        generalize writeK .exc ⟨f1, x1, b1, s1, a1, m1⟩ = L at *
        rintro e w3 ⟨al, cl, rfl, hs, hb, hx⟩
        have HE := Lib.hid (And.intro hs (And.intro (HB2.out.below.trans (hb.mono HB2.out.below.size)) hx))
        clear hs hb hx hc
        go_wp2_with fail
        go_ret2
        exact rgives_some HR.out HE.out.1 HE.out.2.1 (fun y hy => Nat.le_trans HB2.out.below.size (HE.out.2.2 y hy))
    | bitsR =>
      unfold kindRes kindV at HKF
      obtain ⟨z, hz⟩ : ∃ z, rightK .bitsR ⟨f1, x1, b1, s1, a1, m1⟩ = z := ⟨_, rfl⟩
      have HR : Hid (rbytesN ⟨f1, x1, b1, s1, a1, m1⟩ = if z = true then some (writeK .bitsR ⟨f1, x1, b1, s1, a1, m1⟩) else none) := Lib.hid (by unfold rbytesN; rw [hk, ← hz])
      have HZ0 := Lib.hid hz
      have hm := m_bitsR_right
      have hm2 := m_bitsR_write
      clear hk hz
      go_enter Try.func58, Try.ntmps58
      go_wp2_with fail
      refine HKF.out.mono ?_
      rintro e w1 ⟨rfl, hb⟩
      have HB1 := Lib.hid (HB.out.on hb)
      have HA1 := Lib.hid (HA.out.below hb)
      have hc := HB1.out.c
      clear hb HKF
      go_wp2_with fail
      refine (bitsR_right ⟨f1, x1, b1, s1, a1, m1⟩ aw cw ab cb w1 HA1.out).mono ?_
      rw [HZ0.out]
      rintro e w2 ⟨rfl, hb⟩
      have HB2 := Lib.hid (HB1.out.on hb)
      have HA2 := Lib.hid (HA1.out.below hb)
      clear hb hc HA1
      have hc := HB2.out.c
      cases z
      · go_wp2_with fail
        go_ret2
        exact rgives_none (by rw [HR.out]; rfl) HB2.out.below
      · have HZ : Hid (rightK .bitsR ⟨f1, x1, b1, s1, a1, m1⟩ = true) := HZ0
        go_wp2_with fail
        refine (bitsR_write ⟨f1, x1, b1, s1, a1, m1⟩ aw cw ab cb w2 HA2.out (bitsR_small HZ.out)).mono ?_
        generalize writeK .bitsR ⟨f1, x1, b1, s1, a1, m1⟩ = L at *
        rintro e w3 ⟨al, cl, rfl, hs, hb, hx⟩
        have HE := Lib.hid (And.intro hs (And.intro (HB2.out.below.trans (hb.mono HB2.out.below.size)) hx))
        clear hs hb hx hc
        go_wp2_with fail
        go_ret2
        exact rgives_some HR.out HE.out.1 HE.out.2.1 (fun y hy => Nat.le_trans HB2.out.below.size (HE.out.2.2 y hy))
    | wordsR =>
      unfold kindRes kindV at HKF
      obtain ⟨z, hz⟩ : ∃ z, rightK .wordsR ⟨f1, x1, b1, s1, a1, m1⟩ = z := ⟨_, rfl⟩
      have HR : Hid (rbytesN ⟨f1, x1, b1, s1, a1, m1⟩ = if z = true then some (writeK .wordsR ⟨f1, x1, b1, s1, a1, m1⟩) else none) := Lib.hid (by unfold rbytesN; rw [hk, ← hz])
      have HZ0 := Lib.hid hz
      have hm := m_wordsR_right
      have hm2 := m_wordsR_write
      clear hk hz
      go_enter Try.func58, Try.ntmps58
      go_wp2_with fail
      refine HKF.out.mono ?_
      rintro e w1 ⟨rfl, hb⟩
      have HB1 := Lib.hid (HB.out.on hb)
      have HA1 := Lib.hid (HA.out.below hb)
      have hc := HB1.out.c
      clear hb HKF
      go_wp2_with fail
      refine (wordsR_right ⟨f1, x1, b1, s1, a1, m1⟩ aw cw ab cb w1 HA1.out).mono ?_
      rw [HZ0.out]
      rintro e w2 ⟨rfl, hb⟩
      have HB2 := Lib.hid (HB1.out.on hb)
      have HA2 := Lib.hid (HA1.out.below hb)
      clear hb hc HA1
      have hc := HB2.out.c
      cases z
      · go_wp2_with fail
        go_ret2
        exact rgives_none (by rw [HR.out]; rfl) HB2.out.below
      · have HZ : Hid (rightK .wordsR ⟨f1, x1, b1, s1, a1, m1⟩ = true) := HZ0
        go_wp2_with fail
        refine (wordsR_write ⟨f1, x1, b1, s1, a1, m1⟩ aw cw ab cb w2 HA2.out (wordsR_small HZ.out)).mono ?_
        generalize writeK .wordsR ⟨f1, x1, b1, s1, a1, m1⟩ = L at *
        rintro e w3 ⟨al, cl, rfl, hs, hb, hx⟩
        have HE := Lib.hid (And.intro hs (And.intro (HB2.out.below.trans (hb.mono HB2.out.below.size)) hx))
        clear hs hb hx hc
        go_wp2_with fail
        go_ret2
        exact rgives_some HR.out HE.out.1 HE.out.2.1 (fun y hy => Nat.le_trans HB2.out.below.size (HE.out.2.2 y hy))
    | bitW =>
      unfold kindRes kindV at HKF
      obtain ⟨z, hz⟩ : ∃ z, rightK .bitW ⟨f1, x1, b1, s1, a1, m1⟩ = z := ⟨_, rfl⟩
      have HR : Hid (rbytesN ⟨f1, x1, b1, s1, a1, m1⟩ = if z = true then some (writeK .bitW ⟨f1, x1, b1, s1, a1, m1⟩) else none) := Lib.hid (by unfold rbytesN; rw [hk, ← hz])
      have HZ0 := Lib.hid hz
      have hm := m_bitW_right
      have hm2 := m_bitW_write
      clear hk hz
      go_enter Try.func58, Try.ntmps58
      go_wp2_with fail
      refine HKF.out.mono ?_
      rintro e w1 ⟨rfl, hb⟩
      have HB1 := Lib.hid (HB.out.on hb)
      have HA1 := Lib.hid (HA.out.below hb)
      have hc := HB1.out.c
      clear hb HKF
      go_wp2_with fail
      refine (bitW_right ⟨f1, x1, b1, s1, a1, m1⟩ aw cw ab cb w1 HA1.out).mono ?_
      rw [HZ0.out]
      rintro e w2 ⟨rfl, hb⟩
      have HB2 := Lib.hid (HB1.out.on hb)
      have HA2 := Lib.hid (HA1.out.below hb)
      clear hb hc HA1
      have hc := HB2.out.c
      cases z
      · go_wp2_with fail
        go_ret2
        exact rgives_none (by rw [HR.out]; rfl) HB2.out.below
      · have HZ : Hid (rightK .bitW ⟨f1, x1, b1, s1, a1, m1⟩ = true) := HZ0
        go_wp2_with fail
        refine (bitW_write ⟨f1, x1, b1, s1, a1, m1⟩ aw cw ab cb w2 HA2.out (bitW_small HZ.out)).mono ?_
        generalize writeK .bitW ⟨f1, x1, b1, s1, a1, m1⟩ = L at *
        rintro e w3 ⟨al, cl, rfl, hs, hb, hx⟩
        have HE := Lib.hid (And.intro hs (And.intro (HB2.out.below.trans (hb.mono HB2.out.below.size)) hx))
        clear hs hb hx hc
        go_wp2_with fail
        go_ret2
        exact rgives_some HR.out HE.out.1 HE.out.2.1 (fun y hy => Nat.le_trans HB2.out.below.size (HE.out.2.2 y hy))
    | wordW =>
      unfold kindRes kindV at HKF
      obtain ⟨z, hz⟩ : ∃ z, rightK .wordW ⟨f1, x1, b1, s1, a1, m1⟩ = z := ⟨_, rfl⟩
      have HR : Hid (rbytesN ⟨f1, x1, b1, s1, a1, m1⟩ = if z = true then some (writeK .wordW ⟨f1, x1, b1, s1, a1, m1⟩) else none) := Lib.hid (by unfold rbytesN; rw [hk, ← hz])
      have HZ0 := Lib.hid hz
      have hm := m_wordW_right
      have hm2 := m_wordW_write
      clear hk hz
      go_enter Try.func58, Try.ntmps58
      go_wp2_with fail
      refine HKF.out.mono ?_
      rintro e w1 ⟨rfl, hb⟩
      have HB1 := Lib.hid (HB.out.on hb)
      have HA1 := Lib.hid (HA.out.below hb)
      have hc := HB1.out.c
      clear hb HKF
      go_wp2_with fail
      refine (wordW_right ⟨f1, x1, b1, s1, a1, m1⟩ aw cw ab cb w1 HA1.out).mono ?_
      rw [HZ0.out]
      rintro e w2 ⟨rfl, hb⟩
      have HB2 := Lib.hid (HB1.out.on hb)
      have HA2 := Lib.hid (HA1.out.below hb)
      clear hb hc HA1
      have hc := HB2.out.c
      cases z
      · go_wp2_with fail
        go_ret2
        exact rgives_none (by rw [HR.out]; rfl) HB2.out.below
      · have HZ : Hid (rightK .wordW ⟨f1, x1, b1, s1, a1, m1⟩ = true) := HZ0
        go_wp2_with fail
        refine (wordW_write ⟨f1, x1, b1, s1, a1, m1⟩ aw cw ab cb w2 HA2.out (wordW_small HZ.out)).mono ?_
        generalize writeK .wordW ⟨f1, x1, b1, s1, a1, m1⟩ = L at *
        rintro e w3 ⟨al, cl, rfl, hs, hb, hx⟩
        have HE := Lib.hid (And.intro hs (And.intro (HB2.out.below.trans (hb.mono HB2.out.below.size)) hx))
        clear hs hb hx hc
        go_wp2_with fail
        go_ret2
        exact rgives_some HR.out HE.out.1 HE.out.2.1 (fun y hy => Nat.le_trans HB2.out.below.size (HE.out.2.2 y hy))
    | listW M =>
      unfold kindRes kindV at HKF
      obtain ⟨z, hz⟩ : ∃ z, rightK (.listW M) ⟨f1, x1, b1, s1, a1, m1⟩ = z := ⟨_, rfl⟩
      have HR : Hid (rbytesN ⟨f1, x1, b1, s1, a1, m1⟩ = if z = true then some (writeK (.listW M) ⟨f1, x1, b1, s1, a1, m1⟩) else none) := Lib.hid (by unfold rbytesN; rw [hk, ← hz])
      have HZ0 := Lib.hid hz
      have hm := m_listW_right M
      have hm2 := m_listW_write M
      clear hk hz
      go_enter Try.func58, Try.ntmps58
      go_wp2_with fail
      refine HKF.out.mono ?_
      rintro e w1 ⟨rfl, hb⟩
      have HB1 := Lib.hid (HB.out.on hb)
      have HA1 := Lib.hid (HA.out.below hb)
      have hc := HB1.out.c
      clear hb HKF
      go_wp2_with fail
      refine (listW_right ⟨f1, x1, b1, s1, a1, m1⟩ M aw cw ab cb w1 HA1.out).mono ?_
      rw [HZ0.out]
      rintro e w2 ⟨rfl, hb⟩
      have HB2 := Lib.hid (HB1.out.on hb)
      have HA2 := Lib.hid (HA1.out.below hb)
      clear hb hc HA1
      have hc := HB2.out.c
      cases z
      · go_wp2_with fail
        go_ret2
        exact rgives_none (by rw [HR.out]; rfl) HB2.out.below
      · have HZ : Hid (rightK (.listW M) ⟨f1, x1, b1, s1, a1, m1⟩ = true) := HZ0
        go_wp2_with fail
        refine (listW_write ⟨f1, x1, b1, s1, a1, m1⟩ aw cw ab cb w2 M).mono ?_
        generalize writeK (.listW M) ⟨f1, x1, b1, s1, a1, m1⟩ = L at *
        rintro e w3 ⟨al, cl, rfl, hs, hb, hx⟩
        have HE := Lib.hid (And.intro hs (And.intro (HB2.out.below.trans (hb.mono HB2.out.below.size)) hx))
        clear hs hb hx hc
        go_wp2_with fail
        go_ret2
        exact rgives_some HR.out HE.out.1 HE.out.2.1 (fun y hy => Nat.le_trans HB2.out.below.size (HE.out.2.2 y hy))
end Go.Proofs.Ytamdpinfbadflaa.ReplyW
