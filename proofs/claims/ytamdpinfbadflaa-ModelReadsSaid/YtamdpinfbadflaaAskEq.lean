/- Rows that are compared. -/
import Derived.Test.YtamdpinfbadflaaAskPut
open Go.RowKit
namespace Go.Proofs.Ytamdpinfbadflaa.AskW
open AskM Mem

/-- The call answers v; nothing is written. -/
def SaysD (v : Value) (w : World) (e : Ending) (w' : World) : Prop := e = .returned v ∧ ∃ q, w' = w.drewN q
theorem saysD {x y : Bool} {w : World} (h : x = y) (q : Nat) : SaysD (.bool y) w (.returned (.bool x)) (w.drewN q) := by subst h; exact ⟨rfl, q, rfl⟩
theorem SaysD.below {v : Value} {w w' : World} {e : Ending} (h : SaysD v w e w') : Below w.heap.size w w' := by
  obtain ⟨_, q, rfl⟩ := h
  exact below_drawn (Below.refl _ _) q
theorem take_same {α : Type} {l m : List α} {j : Nat} {x : α} (h : l.take j = m.take j) (hx : l[j]? = some x) (hy : m[j]? = some x) : l.take (j + 1) = m.take (j + 1) := by
  rw [List.take_add_one, List.take_add_one, h, hx, hy]
theorem str_eq (l m : List UInt8) : ((str l).toList == (str m).toList) = decide (l = m) := by
  rw [Bool.eq_iff_iff]
  simp [str]
theorem Equal_any (a b : Option Addr) (n c k d : Nat) (l m : List UInt8) (B B2 : Nat) (w : World) (hl : Sl b8 w B a n c l) (hm : Sl b8 w B2 b k d m) :
    Calls Try.prog 60 #[.slice a n c, .slice b k d] w (SaysD (.bool (decide (l = m))) w) := by
  have h1 := hl.text (P := Try.prog) Try.underlying51 Try.underlying5 Try.underlying9
  have h2 := hm.text (P := Try.prog) Try.underlying51 Try.underlying5 Try.underlying9
  go_enter Try.func60, Try.ntmps60
  go_wp2_with fail
  go_ret
  exact saysD (str_eq l m) 0
theorem EqualW_any (a b : Option Addr) (n c k d : Nat) (l m : List UInt16) (B B2 : Nat) (w : World) (hl : Sl b16 w B a n c l) (hm : Sl b16 w B2 b k d m) :
    Calls Try.prog 37 #[.slice a n c, .slice b k d] w (SaysD (.bool (decide (l = m))) w) := by
  have hn := len_le hl
  have hk := len_le hm
  by_cases hnk : n = k
  · subst hnk
    have h1 : ((n : Int) != (n : Int)) = false := by simp
    have HL := Lib.hid (And.intro hl hm)
    clear hl hm
    go_enter Try.func37, Try.ntmps37
    go_wp2_with fail
    go_loopw [13] (fun i wr => ∃ j : Nat, j ≤ n ∧ i = .int .i64 (j : Int) ∧ Hid (l.take j = m.take j) ∧ Hid (∃ q, wr = w.drewN q)) (fun i _ => n - (intOf i).toNat)
    case atStart => exact ⟨0, by omega, rfl, Lib.hid rfl, ⟨0, rfl⟩⟩
    case round =>
      obtain ⟨j, hj, rfl, HT, HW⟩ := hrel
      by_cases hlt : j < n
      · obtain ⟨q, rfl⟩ := HW.out
        obtain ⟨b1, o1, x, rfl, _, hx, hcx⟩ := HL.out.1.at_ hlt
        obtain ⟨b2, o2, y, rfl, _, hy, hcy⟩ := HL.out.2.at_ hlt
        have ht : decide ((j : Int) < (n : Int)) = true := by simp; omega
        have HX := Lib.hid (And.intro hx hy)
        clear hx hy
        by_cases hxy : x = y
        · subst hxy
          have hne : ((x.toNat : Int) != (x.toNat : Int)) = false := by simp
          clear HW
          go_wp2_with fail
          go_quiet (fail)
          go_wp2
          go_roundw
          case rel => exact ⟨j + 1, by omega, by go_num, Lib.hid (take_same HT.out HX.out.1 HX.out.2), Lib.hid ⟨_, rfl⟩⟩
          case measure => simp [intOf]; omega
        · have hne : ((x.toNat : Int) != (y.toNat : Int)) = true := by simp only [bne_iff_ne, ne_eq]; intro h; exact hxy (UInt16.toNat_inj.1 (by omega))
          have HN := Lib.hid hxy
          clear HW hxy
          go_wp2_with fail
          go_quiet (fail)
          go_wp2
          go_ret
          have hne2 : l ≠ m := fun h => HN.out (Option.some.inj (HX.out.1.symm.trans ((congrArg (fun z => z[j]?) h).trans HX.out.2)))
          rw [decide_eq_false hne2]
          exact ⟨rfl, q + _, World.drewN_drewN ..⟩
      · obtain rfl : j = n := by omega
        have ht : decide ((j : Int) < (j : Int)) = false := by simp
        obtain ⟨q, rfl⟩ := HW.out
        clear HW
        go_wp2
        go_ret
        exact saysD (Eq.symm (decide_eq_true (by
          have h := HT.out
          rwa [List.take_of_length_le (by rw [HL.out.1.len]; exact Nat.le_refl _), List.take_of_length_le (by rw [HL.out.2.len]; exact Nat.le_refl _)] at h))) _
  · have h1 : ((n : Int) != (k : Int)) = true := by simp; omega
    have hd : l ≠ m := fun h => hnk (by rw [← hl.len, ← hm.len, h])
    have HD := Lib.hid hd
    clear hd hl hm
    go_enter Try.func37, Try.ntmps37
    go_wp2_with fail
    go_ret
    exact saysD (by simp [HD.out]) 0
theorem EqualB_any (a b : Option Addr) (n c k d : Nat) (l m : List Bool) (B B2 : Nat) (w : World) (hl : Sl Value.bool w B a n c l) (hm : Sl Value.bool w B2 b k d m) :
    Calls Try.prog 36 #[.slice a n c, .slice b k d] w (SaysD (.bool (decide (l = m))) w) := by
  have hn := len_le hl
  have hk := len_le hm
  by_cases hnk : n = k
  · subst hnk
    have h1 : ((n : Int) != (n : Int)) = false := by simp
    have HL := Lib.hid (And.intro hl hm)
    clear hl hm
    go_enter Try.func36, Try.ntmps36
    go_wp2_with fail
    go_loopw [13] (fun i wr => ∃ j : Nat, j ≤ n ∧ i = .int .i64 (j : Int) ∧ Hid (l.take j = m.take j) ∧ Hid (∃ q, wr = w.drewN q)) (fun i _ => n - (intOf i).toNat)
    case atStart => exact ⟨0, by omega, rfl, Lib.hid rfl, ⟨0, rfl⟩⟩
    case round =>
      obtain ⟨j, hj, rfl, HT, HW⟩ := hrel
      by_cases hlt : j < n
      · obtain ⟨q, rfl⟩ := HW.out
        obtain ⟨b1, o1, x, rfl, _, hx, hcx⟩ := HL.out.1.at_ hlt
        obtain ⟨b2, o2, y, rfl, _, hy, hcy⟩ := HL.out.2.at_ hlt
        have ht : decide ((j : Int) < (n : Int)) = true := by simp; omega
        have HX := Lib.hid (And.intro hx hy)
        clear hx hy
        by_cases hxy : x = y
        · subst hxy
          have hne : (x != x) = false := by simp
          clear HW
          go_wp2_with fail
          go_quiet (fail)
          go_wp2
          go_roundw
          case rel => exact ⟨j + 1, by omega, by go_num, Lib.hid (take_same HT.out HX.out.1 HX.out.2), Lib.hid ⟨_, rfl⟩⟩
          case measure => simp [intOf]; omega
        · have hne : (x == y) = false := by simp [hxy]
          have HN := Lib.hid hxy
          clear HW hxy
          go_wp2_with fail
          go_quiet (fail)
          go_wp2
          go_ret
          have hne2 : l ≠ m := fun h => HN.out (Option.some.inj (HX.out.1.symm.trans ((congrArg (fun z => z[j]?) h).trans HX.out.2)))
          rw [decide_eq_false hne2]
          exact ⟨rfl, q + _, World.drewN_drewN ..⟩
      · obtain rfl : j = n := by omega
        have ht : decide ((j : Int) < (j : Int)) = false := by simp
        obtain ⟨q, rfl⟩ := HW.out
        clear HW
        go_wp2
        go_ret
        exact saysD (Eq.symm (decide_eq_true (by
          have h := HT.out
          rwa [List.take_of_length_le (by rw [HL.out.1.len]; exact Nat.le_refl _), List.take_of_length_le (by rw [HL.out.2.len]; exact Nat.le_refl _)] at h))) _
  · have h1 : ((n : Int) != (k : Int)) = true := by simp; omega
    have hd : l ≠ m := fun h => hnk (by rw [← hl.len, ← hm.len, h])
    have HD := Lib.hid hd
    clear hd hl hm
    go_enter Try.func36, Try.ntmps36
    go_wp2_with fail
    go_ret
    exact saysD (by simp [HD.out]) 0
theorem LowBits_any (a b : Option Addr) (n c k d : Nat) (l m : List Bool) (B B2 : Nat) (w : World) (hl : Sl Value.bool w B a n c l) (hm : Sl Value.bool w B2 b k d m) :
    Calls Try.prog 16 #[.slice a n c, .slice b k d] w (SaysD (.bool (decide (l = m))) w) := by
  have hn := len_le hl
  have hk := len_le hm
  by_cases hnk : n = k
  · subst hnk
    have h1 : ((n : Int) != (n : Int)) = false := by simp
    have HL := Lib.hid (And.intro hl hm)
    clear hl hm
    go_enter Try.func16, Try.ntmps16
    go_wp2_with fail
    go_loopw [13] (fun i wr => ∃ j : Nat, j ≤ n ∧ i = .int .i64 (j : Int) ∧ Hid (l.take j = m.take j) ∧ Hid (∃ q, wr = w.drewN q)) (fun i _ => n - (intOf i).toNat)
    case atStart => exact ⟨0, by omega, rfl, Lib.hid rfl, ⟨0, rfl⟩⟩
    case round =>
      obtain ⟨j, hj, rfl, HT, HW⟩ := hrel
      by_cases hlt : j < n
      · obtain ⟨q, rfl⟩ := HW.out
        obtain ⟨b1, o1, x, rfl, _, hx, hcx⟩ := HL.out.1.at_ hlt
        obtain ⟨b2, o2, y, rfl, _, hy, hcy⟩ := HL.out.2.at_ hlt
        have ht : decide ((j : Int) < (n : Int)) = true := by simp; omega
        have HX := Lib.hid (And.intro hx hy)
        clear hx hy
        by_cases hxy : x = y
        · subst hxy
          have hne : (x != x) = false := by simp
          clear HW
          go_wp2_with fail
          go_quiet (fail)
          go_wp2
          go_roundw
          case rel => exact ⟨j + 1, by omega, by go_num, Lib.hid (take_same HT.out HX.out.1 HX.out.2), Lib.hid ⟨_, rfl⟩⟩
          case measure => simp [intOf]; omega
        · have hne : (x == y) = false := by simp [hxy]
          have HN := Lib.hid hxy
          clear HW hxy
          go_wp2_with fail
          go_quiet (fail)
          go_wp2
          go_ret
          have hne2 : l ≠ m := fun h => HN.out (Option.some.inj (HX.out.1.symm.trans ((congrArg (fun z => z[j]?) h).trans HX.out.2)))
          rw [decide_eq_false hne2]
          exact ⟨rfl, q + _, World.drewN_drewN ..⟩
      · obtain rfl : j = n := by omega
        have ht : decide ((j : Int) < (j : Int)) = false := by simp
        obtain ⟨q, rfl⟩ := HW.out
        clear HW
        go_wp2
        go_ret
        exact saysD (Eq.symm (decide_eq_true (by
          have h := HT.out
          rwa [List.take_of_length_le (by rw [HL.out.1.len]; exact Nat.le_refl _), List.take_of_length_le (by rw [HL.out.2.len]; exact Nat.le_refl _)] at h))) _
  · have h1 : ((n : Int) != (k : Int)) = true := by simp; omega
    have hd : l ≠ m := fun h => hnk (by rw [← hl.len, ← hm.len, h])
    have HD := Lib.hid hd
    clear hd hl hm
    go_enter Try.func16, Try.ntmps16
    go_wp2_with fail
    go_ret
    exact saysD (by simp [HD.out]) 0
end Go.Proofs.Ytamdpinfbadflaa.AskW
