/- Whether a request has a row's fields. -/
import Derived.Test.YtamdpinfbadflaaAskA
open Go.RowKit
namespace Go.Proofs.Ytamdpinfbadflaa.AskW
open AskM Mem

/-- A request as a value; its lists lie where they are told to. -/
abbrev askV (a : Req) (aw : Option Addr) (cw : Nat) (ab : Option Addr) (cb : Nat) : Value := .agg #[b8 a.fn, b16 a.at_, b16 a.many, b16 a.to_, .slice aw a.words.length cw, .slice ab a.bits.length cb]
/-- The lists of a request that lie in memory. -/
structure AskAt (w : World) (B : Nat) (a : Req) (aw : Option Addr) (cw : Nat) (ab : Option Addr) (cb : Nat) : Prop where
  words : Sl b16 w B aw a.words.length cw a.words
  bits : Sl Value.bool w B ab a.bits.length cb a.bits
structure RowOk (F : Row) : Prop where
  many : F.many ≤ 2000
  bits : F.bits ≤ 2000
  words : F.words ≤ 125
  one : F.bits = 1 → listed F = false
  to_ : F.to_ = true → listed F = true
  list : listed F = true → 0 < F.many
theorem rowOk {c : Nat} {F : Row} (h : rowN c = some F) : RowOk F := by
  rcases rowN_cases h with ⟨_, rfl⟩ | ⟨_, rfl⟩ | ⟨_, rfl⟩ | ⟨_, rfl⟩ | ⟨_, rfl⟩ | ⟨_, rfl⟩ | ⟨_, rfl⟩ <;> exact ⟨by decide, by decide, by decide, by decide, by decide, by decide⟩

theorem says_bool {x y : Bool} {w w' : World} (h : x = y) (hb : Below w.heap.size w w') : Says (.bool y) w (.returned (.bool x)) w' := by subst h; exact Says.mk hb
theorem below_two (w : World) (o1 o2 : Obj) : Below w.heap.size w ((w.alloc o1).alloc o2) := ((Below.refl _ _).alloc (Nat.le_refl _) _).alloc (by simp) _

set_option maxHeartbeats 1000000 in
theorem fit_any (F : Row) (hF : RowOk F) (a : Req) (aw : Option Addr) (cw : Nat) (ab : Option Addr) (cb : Nat) (w : World) (hnw : a.words.length ≤ 1000000) (hnb : a.bits.length ≤ 1000000) :
    Calls Try.prog 50 #[rowV F, askV a aw cw ab cb] w (Says (.bool (fitN F a)) w) := by
  obtain ⟨fm, fb, fw, ft⟩ := F
  obtain ⟨fn, at_, many, to_, words, bits⟩ := a
  obtain ⟨m1, m2, m3, -, -, -⟩ := hF
  have hm := many.toNat_lt
  have ht := to_.toNat_lt
  simp only at *
  unfold fitN
  simp only
  by_cases h1 : within many.toNat fm = false
  · have H1 := Lib.hid h1
    clear h1
    go_enter Try.func50, Try.ntmps50
    go_wp2_with fail
    refine (within_any _ _ _ (by omega) (by omega)).mono ?_
    rintro e w' ⟨rfl, rfl⟩
    rw [H1.out]
    go_wp2_with fail
    go_ret
    exact says_bool (by simp_all [Hid]) (below_two _ _ _)
  have H1 : Hid (within many.toNat fm = true) := Lib.hid (by simpa using h1)
  clear h1
  by_cases h2 : within bits.length fb = false
  · have H2 := Lib.hid h2
    clear h2
    go_enter Try.func50, Try.ntmps50
    go_wp2_with fail
    refine (within_any _ _ _ (by omega) (by omega)).mono ?_
    rintro e w' ⟨rfl, rfl⟩
    rw [H1.out]
    go_wp2_with fail
    refine (within_any _ _ _ (by omega) (by omega)).mono ?_
    rintro e w' ⟨rfl, rfl⟩
    rw [H2.out]
    go_wp2_with fail
    go_ret
    exact says_bool (by simp_all [Hid]) (below_two _ _ _)
  have H2 : Hid (within bits.length fb = true) := Lib.hid (by simpa using h2)
  clear h2
  by_cases h3 : within words.length fw = false
  · have H3 := Lib.hid h3
    clear h3
    go_enter Try.func50, Try.ntmps50
    go_wp2_with fail
    refine (within_any _ _ _ (by omega) (by omega)).mono ?_
    rintro e w' ⟨rfl, rfl⟩
    rw [H1.out]
    go_wp2_with fail
    refine (within_any _ _ _ (by omega) (by omega)).mono ?_
    rintro e w' ⟨rfl, rfl⟩
    rw [H2.out]
    go_wp2_with fail
    refine (within_any _ _ _ (by omega) (by omega)).mono ?_
    rintro e w' ⟨rfl, rfl⟩
    rw [H3.out]
    go_wp2_with fail
    go_ret
    exact says_bool (by simp_all [Hid]) (below_two _ _ _)
  have H3 : Hid (within words.length fw = true) := Lib.hid (by simpa using h3)
  clear h3
  have hl : ∀ (w : World), Calls Try.prog 63 #[rowV ⟨fm, fb, fw, ft⟩] w fun e w' => e = .returned (.bool (listed ⟨fm, fb, fw, ft⟩)) ∧ w' = _ := listed_any ⟨fm, fb, fw, ft⟩
  cases ft
  · by_cases h4 : to_ = 0
    · subst h4
      cases hL : listed ⟨fm, fb, fw, false⟩
      all_goals
        have HL := Lib.hid hL
        clear hL
        go_enter Try.func50, Try.ntmps50
        go_wp2_with fail
        refine (within_any _ _ _ (by omega) (by omega)).mono ?_
        rintro e w' ⟨rfl, rfl⟩
        rw [H1.out]
        go_wp2_with fail
        refine (within_any _ _ _ (by omega) (by omega)).mono ?_
        rintro e w' ⟨rfl, rfl⟩
        rw [H2.out]
        go_wp2_with fail
        refine (within_any _ _ _ (by omega) (by omega)).mono ?_
        rintro e w' ⟨rfl, rfl⟩
        rw [H3.out]
        go_wp2_with fail
        refine (hl _).mono ?_
        rintro e w' ⟨rfl, rfl⟩
        rw [HL.out]
        go_wp2_with fail
        go_ret
        refine says_bool ?_ ((below_two _ _ _).alloc (by simp; omega) _)
        first
          | (simp [H1.out, H2.out, H3.out]; done)
          | (rw [Bool.eq_iff_iff]; simp [H1.out, H2.out, H3.out]; omega)
    · have h4' : (((to_.toNat : Int)) == 0) = false := by
        simp
        intro h
        exact h4 (UInt16.toNat_inj.1 (by simpa using h))
      go_enter Try.func50, Try.ntmps50
      go_wp2_with fail
      refine (within_any _ _ _ (by omega) (by omega)).mono ?_
      rintro e w' ⟨rfl, rfl⟩
      rw [H1.out]
      go_wp2_with fail
      refine (within_any _ _ _ (by omega) (by omega)).mono ?_
      rintro e w' ⟨rfl, rfl⟩
      rw [H2.out]
      go_wp2_with fail
      refine (within_any _ _ _ (by omega) (by omega)).mono ?_
      rintro e w' ⟨rfl, rfl⟩
      rw [H3.out]
      go_wp2_with fail
      go_ret
      exact says_bool (by simp [H1.out, H2.out, H3.out, h4]) (below_two _ _ _)
  · go_enter Try.func50, Try.ntmps50
    go_wp2_with fail
    refine (within_any _ _ _ (by omega) (by omega)).mono ?_
    rintro e w' ⟨rfl, rfl⟩
    rw [H1.out]
    go_wp2_with fail
    refine (within_any _ _ _ (by omega) (by omega)).mono ?_
    rintro e w' ⟨rfl, rfl⟩
    rw [H2.out]
    go_wp2_with fail
    refine (within_any _ _ _ (by omega) (by omega)).mono ?_
    rintro e w' ⟨rfl, rfl⟩
    rw [H3.out]
    go_wp2_with fail
    go_ret
    exact says_bool (by simp_all [Hid]) (below_two _ _ _)
end Go.Proofs.Ytamdpinfbadflaa.AskW
