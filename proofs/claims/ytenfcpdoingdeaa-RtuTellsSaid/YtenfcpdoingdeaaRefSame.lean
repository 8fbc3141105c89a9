/- The document's own answer: which requests, and which replies, are the same. -/
import Derived.Test.YtenfcpdoingdeaaAskKit
import Derived.Test.YtenfcpdoingdeaaReplyA
open Go.RowKit
namespace Go.Proofs.Ytenfcpdoingdeaa.RefW
open AskM AskW ReplyM ReplyW Mem

set_option maxRecDepth 100000 in
set_option maxHeartbeats 8000000 in
theorem rSame_any (a o : Req) (aw : Option Addr) (cw : Nat) (ab : Option Addr) (cb : Nat) (ow : Option Addr) (dw : Nat) (ob : Option Addr) (db : Nat) (w : World) (hA : AskAt w w.heap.size a aw cw ab cb) (hO : AskAt w w.heap.size o ow dw ob db) :
    Calls Try.prog 13 #[askV a aw cw ab cb, askV o ow dw ob db] w (Says (.bool (decide (a = o))) w) := by
  have hA2 := fun o1 o2 => hA.two o1 o2
  have hO2 := fun o1 o2 => hO.two o1 o2
  have l1 := len_le hA.words
  have l2 := len_le hA.bits
  have l3 := len_le hO.words
  have l4 := len_le hO.bits
  clear hA hO
  obtain ⟨f1, a1, m1, t1, ws1, bs1⟩ := a
  obtain ⟨f2, a2, m2, t2, ws2, bs2⟩ := o
  simp only at l1 l2 l3 l4
  by_cases hf : f1 = f2
  case neg =>
    have hne : ((f1.toNat : Int) != (f2.toNat : Int)) = true := by rw [bne, ne8 hf]; rfl
    have HN : Hid (decide ((⟨f1, a1, m1, t1, ws1, bs1⟩ : Req) = ⟨f2, a2, m2, t2, ws2, bs2⟩) = false) := Lib.hid (by simp [hf])
    clear hf
    go_enter Try.func13, Try.ntmps13
    go_wp2_with fail
    go_ret
    exact says_bool HN.out.symm (below_two _ _ _)
  subst hf
  have ef : ((f1.toNat : Int) != (f1.toNat : Int)) = false := by simp
  by_cases ha : a1 = a2
  case neg =>
    have hne : ((a1.toNat : Int) != (a2.toNat : Int)) = true := by rw [bne, ne16 ha]; rfl
    have HN : Hid (decide ((⟨f1, a1, m1, t1, ws1, bs1⟩ : Req) = ⟨f1, a2, m2, t2, ws2, bs2⟩) = false) := Lib.hid (by simp [ha])
    clear ha
    go_enter Try.func13, Try.ntmps13
    go_wp2_with fail
    go_ret
    exact says_bool HN.out.symm (below_two _ _ _)
  subst ha
  have ea : ((a1.toNat : Int) != (a1.toNat : Int)) = false := by simp
  by_cases hm : m1 = m2
  case neg =>
    have hne : ((m1.toNat : Int) != (m2.toNat : Int)) = true := by rw [bne, ne16 hm]; rfl
    have HN : Hid (decide ((⟨f1, a1, m1, t1, ws1, bs1⟩ : Req) = ⟨f1, a1, m2, t2, ws2, bs2⟩) = false) := Lib.hid (by simp [hm])
    clear hm
    go_enter Try.func13, Try.ntmps13
    go_wp2_with fail
    go_ret
    exact says_bool HN.out.symm (below_two _ _ _)
  subst hm
  have em : ((m1.toNat : Int) != (m1.toNat : Int)) = false := by simp
  by_cases ht : t1 = t2
  case neg =>
    have hne : ((t1.toNat : Int) != (t2.toNat : Int)) = true := by rw [bne, ne16 ht]; rfl
    have HN : Hid (decide ((⟨f1, a1, m1, t1, ws1, bs1⟩ : Req) = ⟨f1, a1, m1, t2, ws2, bs2⟩) = false) := Lib.hid (by simp [ht])
    clear ht
    go_enter Try.func13, Try.ntmps13
    go_wp2_with fail
    go_ret
    exact says_bool HN.out.symm (below_two _ _ _)
  subst ht
  have et : ((t1.toNat : Int) != (t1.toNat : Int)) = false := by simp
  by_cases hws : ws1.length = ws2.length
  case neg =>
    have hne : ((ws1.length : Int) != (ws2.length : Int)) = true := by simp; omega
    have HN : Hid (decide ((⟨f1, a1, m1, t1, ws1, bs1⟩ : Req) = ⟨f1, a1, m1, t1, ws2, bs2⟩) = false) := Lib.hid (by
      have : ws1 ≠ ws2 := fun e => hws (congrArg List.length e)
      simp [this])
    clear hws
    go_enter Try.func13, Try.ntmps13
    go_wp2_with fail
    go_ret
    exact says_bool HN.out.symm (below_two _ _ _)
  have ews : ((ws1.length : Int) != (ws2.length : Int)) = false := by simp; omega
  have Hws := Lib.hid hws
  clear hws
  by_cases hbs : bs1.length = bs2.length
  case neg =>
    have hne : ((bs1.length : Int) != (bs2.length : Int)) = true := by simp; omega
    have HN : Hid (decide ((⟨f1, a1, m1, t1, ws1, bs1⟩ : Req) = ⟨f1, a1, m1, t1, ws2, bs2⟩) = false) := Lib.hid (by
      have : bs1 ≠ bs2 := fun e => hbs (congrArg List.length e)
      simp [this])
    clear hbs
    go_enter Try.func13, Try.ntmps13
    go_wp2_with fail
    go_ret
    exact says_bool HN.out.symm (below_two _ _ _)
  have ebs : ((bs1.length : Int) != (bs2.length : Int)) = false := by simp; omega
  have Hbs := Lib.hid hbs
  clear hbs
  have HB : Hid (Boxed w #[b8 f1, b16 a1, b16 m1, b16 t1, .slice aw ws1.length cw, .slice ab bs1.length cb] #[b8 f1, b16 a1, b16 m1, b16 t1, .slice ow ws2.length dw, .slice ob bs2.length db] 26 26 ((w.alloc (.cells #[b8 f1, b16 a1, b16 m1, b16 t1, .slice aw ws1.length cw, .slice ab bs1.length cb] 26)).alloc (.cells #[b8 f1, b16 a1, b16 m1, b16 t1, .slice ow ws2.length dw, .slice ob bs2.length db] 26))) := Lib.hid (Below.refl _ _)
  have HA := Lib.hid (hA2 (.cells #[b8 f1, b16 a1, b16 m1, b16 t1, .slice aw ws1.length cw, .slice ab bs1.length cb] 26) (.cells #[b8 f1, b16 a1, b16 m1, b16 t1, .slice ow ws2.length dw, .slice ob bs2.length db] 26))
  have HO := Lib.hid (hO2 (.cells #[b8 f1, b16 a1, b16 m1, b16 t1, .slice aw ws1.length cw, .slice ab bs1.length cb] 26) (.cells #[b8 f1, b16 a1, b16 m1, b16 t1, .slice ow ws2.length dw, .slice ob bs2.length db] 26))
  have C1 := HB.out.one
  have C2 := HB.out.two
  clear hA2 hO2
  go_enter Try.func13, Try.ntmps13
  go_wp2_with fail
  generalize (w.alloc (.cells #[b8 f1, b16 a1, b16 m1, b16 t1, .slice aw ws1.length cw, .slice ab bs1.length cb] 26)).alloc (.cells #[b8 f1, b16 a1, b16 m1, b16 t1, .slice ow ws2.length dw, .slice ob bs2.length db] 26) = W0 at *
  clear C1 C2 ef ea em et ews ebs
  go_loopw [5] (fun i wr => ∃ j : Nat, j ≤ ws1.length ∧ i = .int .i64 (j : Int) ∧ Hid (ws1.take j = ws2.take j) ∧ Hid (∃ q, wr = W0.drewN q)) (fun i _ => ws1.length - (intOf i).toNat)
  case atStart => exact ⟨0, by omega, rfl, Lib.hid rfl, Lib.hid ⟨0, rfl⟩⟩
  case round =>
    obtain ⟨j, hj, rfl, HT, HW⟩ := hrel
    obtain ⟨q, rfl⟩ := HW.out
    clear HW
    have C1 := HB.out.one
    have C2 := HB.out.two
    have hl := Hws.out
    by_cases hlt : j < ws1.length
    · obtain ⟨g1, o1, y1, e1, _, hx, hcx⟩ := HA.out.words.at_ (k := j) hlt
      obtain ⟨g2, o2, y2, e2, _, hy, hcy⟩ := HO.out.words.at_ (k := j) (show j < ws2.length by omega)
      have ht : decide ((j : Int) < (ws1.length : Int)) = true := by simp; omega
      have i1 : (j : Int) < (ws1.length : Int) := by omega
      have i2 : (j : Int) < (ws2.length : Int) := by omega
      have HX := Lib.hid (And.intro hx hy)
      subst e1 e2
      clear hx hy hl
      by_cases hxy : y1 = y2
      · subst hxy
        have hne : ((y1.toNat : Int) != (y1.toNat : Int)) = false := by simp
        go_wp2_with fail
        go_quiet (fail)
        go_wp2_with fail
        go_roundw
        case rel => exact ⟨j + 1, by omega, by go_num, Lib.hid (take_same HT.out HX.out.1 HX.out.2), Lib.hid ⟨_, rfl⟩⟩
        case measure => simp [intOf] <;> omega
      · have hne : ((y1.toNat : Int) != (y2.toNat : Int)) = true := by rw [bne, ne16 hxy]; rfl
        have HN := Lib.hid hxy
        clear hxy
        go_wp2_with fail
        go_quiet (fail)
        go_wp2_with fail
        go_ret
        have hne2 : ws1 ≠ ws2 := fun h => HN.out (Option.some.inj (HX.out.1.symm.trans ((congrArg (fun z => z[j]?) h).trans HX.out.2)))
        refine says_bool (by simp [hne2]) (below_drawn (below_drawn HB.out.below q) _)
    · have hj2 : j = ws1.length := by omega
      have HE : Hid (ws1 = ws2) := Lib.hid (by
        have h := HT.out
        rw [hj2, List.take_of_length_le (Nat.le_refl _), List.take_of_length_le (by omega)] at h
        exact h)
      have ht : decide ((j : Int) < (ws1.length : Int)) = false := by simp; omega
      clear hl hj2 HT
      go_wp2_with fail
      clear C1 C2 ht
      have HEW := HE
      clear HE
      generalize q = q0 at *
      go_loopw [6] (fun i wr => ∃ j : Nat, j ≤ bs1.length ∧ i = .int .i64 (j : Int) ∧ Hid (bs1.take j = bs2.take j) ∧ Hid (∃ q, wr = W0.drewN q)) (fun i _ => bs1.length - (intOf i).toNat)
      case atStart => exact ⟨0, by omega, rfl, Lib.hid rfl, Lib.hid ⟨q0, rfl⟩⟩
      case round =>
        obtain ⟨j, hj, rfl, HT, HW⟩ := hrel
        obtain ⟨q, rfl⟩ := HW.out
        clear HW
        have C1 := HB.out.one
        have C2 := HB.out.two
        have hl := Hbs.out
        by_cases hlt : j < bs1.length
        · obtain ⟨g1, o1, y1, e1, _, hx, hcx⟩ := HA.out.bits.at_ (k := j) hlt
          obtain ⟨g2, o2, y2, e2, _, hy, hcy⟩ := HO.out.bits.at_ (k := j) (show j < bs2.length by omega)
          have ht : decide ((j : Int) < (bs1.length : Int)) = true := by simp; omega
          have i1 : (j : Int) < (bs1.length : Int) := by omega
          have i2 : (j : Int) < (bs2.length : Int) := by omega
          have HX := Lib.hid (And.intro hx hy)
          subst e1 e2
          clear hx hy hl
          by_cases hxy : y1 = y2
          · subst hxy
            have hne : (!(y1 == y1)) = false := by simp
            go_wp2_with fail
            go_quiet (fail)
            go_wp2_with fail
            go_roundw
            case rel => exact ⟨j + 1, by omega, by go_num, Lib.hid (take_same HT.out HX.out.1 HX.out.2), Lib.hid ⟨_, rfl⟩⟩
            case measure => simp [intOf] <;> omega
          · have hne : (!(y1 == y2)) = true := by simp [hxy]
            have HN := Lib.hid hxy
            clear hxy
            go_wp2_with fail
            go_quiet (fail)
            go_wp2_with fail
            go_ret
            have hne2 : bs1 ≠ bs2 := fun h => HN.out (Option.some.inj (HX.out.1.symm.trans ((congrArg (fun z => z[j]?) h).trans HX.out.2)))
            refine says_bool (by simp [hne2]) (below_drawn (below_drawn HB.out.below q) _)
        · have hj2 : j = bs1.length := by omega
          have HE : Hid (bs1 = bs2) := Lib.hid (by
            have h := HT.out
            rw [hj2, List.take_of_length_le (Nat.le_refl _), List.take_of_length_le (by omega)] at h
            exact h)
          have ht : decide ((j : Int) < (bs1.length : Int)) = false := by simp; omega
          clear hl hj2 HT
          go_wp2_with fail
          go_ret
          exact says_bool (by have h1 := HEW.out; have h2 := HE.out; subst h1 h2; simp) (below_drawn HB.out.below q)
set_option maxRecDepth 100000 in
set_option maxHeartbeats 8000000 in
theorem rRSame_any (a o : Rep) (aw : Option Addr) (cw : Nat) (ab : Option Addr) (cb : Nat) (ow : Option Addr) (dw : Nat) (ob : Option Addr) (db : Nat) (w : World) (hA : RepAt w w.heap.size a aw cw ab cb) (hO : RepAt w w.heap.size o ow dw ob db) :
    Calls Try.prog 32 #[repV a aw cw ab cb, repV o ow dw ob db] w (Says (.bool (decide (a = o))) w) := by
  have hA2 := fun o1 o2 => hA.two o1 o2
  have hO2 := fun o1 o2 => hO.two o1 o2
  have l1 := len_le hA.words
  have l2 := len_le hA.bits
  have l3 := len_le hO.words
  have l4 := len_le hO.bits
  clear hA hO
  obtain ⟨f1, x1, bs1, ws1, a1, m1⟩ := a
  obtain ⟨f2, x2, bs2, ws2, a2, m2⟩ := o
  simp only at l1 l2 l3 l4
  by_cases hf : f1 = f2
  case neg =>
    have hne : ((f1.toNat : Int) != (f2.toNat : Int)) = true := by rw [bne, ne8 hf]; rfl
    have HN : Hid (decide ((⟨f1, x1, bs1, ws1, a1, m1⟩ : Rep) = ⟨f2, x2, bs2, ws2, a2, m2⟩) = false) := Lib.hid (by simp [hf])
    clear hf
    go_enter Try.func32, Try.ntmps32
    go_wp2_with fail
    go_ret
    exact says_bool HN.out.symm (below_two _ _ _)
  subst hf
  have ef : ((f1.toNat : Int) != (f1.toNat : Int)) = false := by simp
  by_cases hx : x1 = x2
  case neg =>
    have hne : ((x1.toNat : Int) != (x2.toNat : Int)) = true := by rw [bne, ne8 hx]; rfl
    have HN : Hid (decide ((⟨f1, x1, bs1, ws1, a1, m1⟩ : Rep) = ⟨f1, x2, bs2, ws2, a2, m2⟩) = false) := Lib.hid (by simp [hx])
    clear hx
    go_enter Try.func32, Try.ntmps32
    go_wp2_with fail
    go_ret
    exact says_bool HN.out.symm (below_two _ _ _)
  subst hx
  have ex : ((x1.toNat : Int) != (x1.toNat : Int)) = false := by simp
  by_cases ha : a1 = a2
  case neg =>
    have hne : ((a1.toNat : Int) != (a2.toNat : Int)) = true := by rw [bne, ne16 ha]; rfl
    have HN : Hid (decide ((⟨f1, x1, bs1, ws1, a1, m1⟩ : Rep) = ⟨f1, x1, bs2, ws2, a2, m2⟩) = false) := Lib.hid (by simp [ha])
    clear ha
    go_enter Try.func32, Try.ntmps32
    go_wp2_with fail
    go_ret
    exact says_bool HN.out.symm (below_two _ _ _)
  subst ha
  have ea : ((a1.toNat : Int) != (a1.toNat : Int)) = false := by simp
  by_cases hm : m1 = m2
  case neg =>
    have hne : ((m1.toNat : Int) != (m2.toNat : Int)) = true := by rw [bne, ne16 hm]; rfl
    have HN : Hid (decide ((⟨f1, x1, bs1, ws1, a1, m1⟩ : Rep) = ⟨f1, x1, bs2, ws2, a1, m2⟩) = false) := Lib.hid (by simp [hm])
    clear hm
    go_enter Try.func32, Try.ntmps32
    go_wp2_with fail
    go_ret
    exact says_bool HN.out.symm (below_two _ _ _)
  subst hm
  have em : ((m1.toNat : Int) != (m1.toNat : Int)) = false := by simp
  by_cases hws : ws1.length = ws2.length
  case neg =>
    have hne : ((ws1.length : Int) != (ws2.length : Int)) = true := by simp; omega
    have HN : Hid (decide ((⟨f1, x1, bs1, ws1, a1, m1⟩ : Rep) = ⟨f1, x1, bs2, ws2, a1, m1⟩) = false) := Lib.hid (by
      have : ws1 ≠ ws2 := fun e => hws (congrArg List.length e)
      simp [this])
    clear hws
    go_enter Try.func32, Try.ntmps32
    go_wp2_with fail
    go_ret
    exact says_bool HN.out.symm (below_two _ _ _)
  have ews : ((ws1.length : Int) != (ws2.length : Int)) = false := by simp; omega
  have Hws := Lib.hid hws
  clear hws
  by_cases hbs : bs1.length = bs2.length
  case neg =>
    have hne : ((bs1.length : Int) != (bs2.length : Int)) = true := by simp; omega
    have HN : Hid (decide ((⟨f1, x1, bs1, ws1, a1, m1⟩ : Rep) = ⟨f1, x1, bs2, ws2, a1, m1⟩) = false) := Lib.hid (by
      have : bs1 ≠ bs2 := fun e => hbs (congrArg List.length e)
      simp [this])
    clear hbs
    go_enter Try.func32, Try.ntmps32
    go_wp2_with fail
    go_ret
    exact says_bool HN.out.symm (below_two _ _ _)
  have ebs : ((bs1.length : Int) != (bs2.length : Int)) = false := by simp; omega
  have Hbs := Lib.hid hbs
  clear hbs
  have HB : Hid (Boxed w #[b8 f1, b8 x1, .slice ab bs1.length cb, .slice aw ws1.length cw, b16 a1, b16 m1] #[b8 f1, b8 x1, .slice ob bs2.length db, .slice ow ws2.length dw, b16 a1, b16 m1] 45 45 ((w.alloc (.cells #[b8 f1, b8 x1, .slice ab bs1.length cb, .slice aw ws1.length cw, b16 a1, b16 m1] 45)).alloc (.cells #[b8 f1, b8 x1, .slice ob bs2.length db, .slice ow ws2.length dw, b16 a1, b16 m1] 45))) := Lib.hid (Below.refl _ _)
  have HA := Lib.hid (hA2 (.cells #[b8 f1, b8 x1, .slice ab bs1.length cb, .slice aw ws1.length cw, b16 a1, b16 m1] 45) (.cells #[b8 f1, b8 x1, .slice ob bs2.length db, .slice ow ws2.length dw, b16 a1, b16 m1] 45))
  have HO := Lib.hid (hO2 (.cells #[b8 f1, b8 x1, .slice ab bs1.length cb, .slice aw ws1.length cw, b16 a1, b16 m1] 45) (.cells #[b8 f1, b8 x1, .slice ob bs2.length db, .slice ow ws2.length dw, b16 a1, b16 m1] 45))
  have C1 := HB.out.one
  have C2 := HB.out.two
  clear hA2 hO2
  go_enter Try.func32, Try.ntmps32
  go_wp2_with fail
  generalize (w.alloc (.cells #[b8 f1, b8 x1, .slice ab bs1.length cb, .slice aw ws1.length cw, b16 a1, b16 m1] 45)).alloc (.cells #[b8 f1, b8 x1, .slice ob bs2.length db, .slice ow ws2.length dw, b16 a1, b16 m1] 45) = W0 at *
  clear C1 C2 ef ex ea em ews ebs
  go_loopw [5] (fun i wr => ∃ j : Nat, j ≤ ws1.length ∧ i = .int .i64 (j : Int) ∧ Hid (ws1.take j = ws2.take j) ∧ Hid (∃ q, wr = W0.drewN q)) (fun i _ => ws1.length - (intOf i).toNat)
  case atStart => exact ⟨0, by omega, rfl, Lib.hid rfl, Lib.hid ⟨0, rfl⟩⟩
  case round =>
    obtain ⟨j, hj, rfl, HT, HW⟩ := hrel
    obtain ⟨q, rfl⟩ := HW.out
    clear HW
    have C1 := HB.out.one
    have C2 := HB.out.two
    have hl := Hws.out
    by_cases hlt : j < ws1.length
    · obtain ⟨g1, o1, y1, e1, _, hx, hcx⟩ := HA.out.words.at_ (k := j) hlt
      obtain ⟨g2, o2, y2, e2, _, hy, hcy⟩ := HO.out.words.at_ (k := j) (show j < ws2.length by omega)
      have ht : decide ((j : Int) < (ws1.length : Int)) = true := by simp; omega
      have i1 : (j : Int) < (ws1.length : Int) := by omega
      have i2 : (j : Int) < (ws2.length : Int) := by omega
      have HX := Lib.hid (And.intro hx hy)
      subst e1 e2
      clear hx hy hl
      by_cases hxy : y1 = y2
      · subst hxy
        have hne : ((y1.toNat : Int) != (y1.toNat : Int)) = false := by simp
        go_wp2_with fail
        go_quiet (fail)
        go_wp2_with fail
        go_roundw
        case rel => exact ⟨j + 1, by omega, by go_num, Lib.hid (take_same HT.out HX.out.1 HX.out.2), Lib.hid ⟨_, rfl⟩⟩
        case measure => simp [intOf] <;> omega
      · have hne : ((y1.toNat : Int) != (y2.toNat : Int)) = true := by rw [bne, ne16 hxy]; rfl
        have HN := Lib.hid hxy
        clear hxy
        go_wp2_with fail
        go_quiet (fail)
        go_wp2_with fail
        go_ret
        have hne2 : ws1 ≠ ws2 := fun h => HN.out (Option.some.inj (HX.out.1.symm.trans ((congrArg (fun z => z[j]?) h).trans HX.out.2)))
        refine says_bool (by simp [hne2]) (below_drawn (below_drawn HB.out.below q) _)
    · have hj2 : j = ws1.length := by omega
      have HE : Hid (ws1 = ws2) := Lib.hid (by
        have h := HT.out
        rw [hj2, List.take_of_length_le (Nat.le_refl _), List.take_of_length_le (by omega)] at h
        exact h)
      have ht : decide ((j : Int) < (ws1.length : Int)) = false := by simp; omega
      clear hl hj2 HT
      go_wp2_with fail
      clear C1 C2 ht
      have HEW := HE
      clear HE
      generalize q = q0 at *
      go_loopw [6] (fun i wr => ∃ j : Nat, j ≤ bs1.length ∧ i = .int .i64 (j : Int) ∧ Hid (bs1.take j = bs2.take j) ∧ Hid (∃ q, wr = W0.drewN q)) (fun i _ => bs1.length - (intOf i).toNat)
      case atStart => exact ⟨0, by omega, rfl, Lib.hid rfl, Lib.hid ⟨q0, rfl⟩⟩
      case round =>
        obtain ⟨j, hj, rfl, HT, HW⟩ := hrel
        obtain ⟨q, rfl⟩ := HW.out
        clear HW
        have C1 := HB.out.one
        have C2 := HB.out.two
        have hl := Hbs.out
        by_cases hlt : j < bs1.length
        · obtain ⟨g1, o1, y1, e1, _, hx, hcx⟩ := HA.out.bits.at_ (k := j) hlt
          obtain ⟨g2, o2, y2, e2, _, hy, hcy⟩ := HO.out.bits.at_ (k := j) (show j < bs2.length by omega)
          have ht : decide ((j : Int) < (bs1.length : Int)) = true := by simp; omega
          have i1 : (j : Int) < (bs1.length : Int) := by omega
          have i2 : (j : Int) < (bs2.length : Int) := by omega
          have HX := Lib.hid (And.intro hx hy)
          subst e1 e2
          clear hx hy hl
          by_cases hxy : y1 = y2
          · subst hxy
            have hne : (!(y1 == y1)) = false := by simp
            go_wp2_with fail
            go_quiet (fail)
            go_wp2_with fail
            go_roundw
            case rel => exact ⟨j + 1, by omega, by go_num, Lib.hid (take_same HT.out HX.out.1 HX.out.2), Lib.hid ⟨_, rfl⟩⟩
            case measure => simp [intOf] <;> omega
          · have hne : (!(y1 == y2)) = true := by simp [hxy]
            have HN := Lib.hid hxy
            clear hxy
            go_wp2_with fail
            go_quiet (fail)
            go_wp2_with fail
            go_ret
            have hne2 : bs1 ≠ bs2 := fun h => HN.out (Option.some.inj (HX.out.1.symm.trans ((congrArg (fun z => z[j]?) h).trans HX.out.2)))
            refine says_bool (by simp [hne2]) (below_drawn (below_drawn HB.out.below q) _)
        · have hj2 : j = bs1.length := by omega
          have HE : Hid (bs1 = bs2) := Lib.hid (by
            have h := HT.out
            rw [hj2, List.take_of_length_le (Nat.le_refl _), List.take_of_length_le (by omega)] at h
            exact h)
          have ht : decide ((j : Int) < (bs1.length : Int)) = false := by simp; omega
          clear hl hj2 HT
          go_wp2_with fail
          go_ret
          exact says_bool (by have h1 := HEW.out; have h2 := HE.out; subst h1 h2; simp) (below_drawn HB.out.below q)
end Go.Proofs.Ytenfcpdoingdeaa.RefW
