/- The document's own answer: which frames are right, how many bytes a frame has. -/
import Derived.Test.YteekdginloljjaaMbSame
import Derived.Deep.DeepCutAuto
open Go.RowKit
namespace Go.Proofs.Yteekdginloljjaa.MbW
open MbM Mem

set_option maxRecDepth 100000 in
set_option maxHeartbeats 1000000 in
theorem rRight_any (x : Fr) (a : Option Addr) (c : Nat) (w : World) (hl : Sl b8 w w.heap.size a x.pdu.length c x.pdu) :
    Calls Try.prog 9 #[frV x a c] w (Says (.bool (decide (Right x))) w) := by
  have hn := len_le hl
  have hB0 := fun o => (Below.refl w.heap.size w).alloc (Nat.le_refl _) o
  obtain ⟨t, u, p⟩ := x
  simp only at hl hn
  clear hl
  by_cases h1 : 1 ≤ p.length
  · have t1 : decide (1 ≤ (p.length : Int)) = true := by simp; omega
    by_cases h2 : p.length ≤ 253
    · have t2 : decide ((p.length : Int) ≤ 253) = true := by simp; omega
      have HD : Hid (decide (Right ⟨t, u, p⟩) = true) := Lib.hid (decide_eq_true ⟨h1, h2⟩)
      rw [HD.out]
      clear h1 h2 HD
      go_enter Try.func9, Try.ntmps9
      go_wp2_with fail
      go_ret
      exact ⟨ret_bool rfl, hB0 _⟩
    · have t2 : decide ((p.length : Int) ≤ 253) = false := by simp; omega
      have HD : Hid (decide (Right ⟨t, u, p⟩) = false) := Lib.hid (decide_eq_false (fun h => h2 h.2))
      rw [HD.out]
      clear h1 h2 HD
      go_enter Try.func9, Try.ntmps9
      go_wp2_with fail
      go_ret
      exact ⟨ret_bool rfl, hB0 _⟩
  · have t1 : decide (1 ≤ (p.length : Int)) = false := by simp; omega
    have HD : Hid (decide (Right ⟨t, u, p⟩) = false) := Lib.hid (decide_eq_false (fun h => h1 h.1))
    rw [HD.out]
    clear h1 HD
    go_enter Try.func9, Try.ntmps9
    go_wp2_with fail
    go_ret
    exact ⟨ret_bool rfl, hB0 _⟩

/-- How many bytes the frame has that bytes begin with; nought: it is not told yet; -1: there is none. -/
def longI (b : List UInt8) : Int := if begunB b = true then (if b.length < 6 then 0 else 6 + (hd b 5 : Int)) else -1
def SaysI (k : Int) (w : World) (e : Ending) (w' : World) : Prop := e = .returned (.int .i64 k) ∧ w' = w
theorem SaysI.mk {k k' : Int} {w w' : World} {v : Value} (hv : v = .int .i64 k') (hk : k' = k) (hw : w' = w) : SaysI k w (.returned v) w' := by subst hv hk hw; exact ⟨rfl, rfl⟩
theorem hd_none {b : List UInt8} {i : Nat} (h : b.length ≤ i) (h5 : i ≠ 5) : hd b i = 0 := by
  unfold hd; rw [List.getElem?_eq_none h]; simp [h5]
theorem hd_none5 {b : List UInt8} (h : b.length ≤ 5) : hd b 5 = 2 := by
  unfold hd; rw [List.getElem?_eq_none h]; rfl
theorem hd_at {b : List UInt8} {i : Nat} {y : UInt8} (h : b[i]? = some y) : hd b i = y.toNat := by unfold hd; rw [h]
theorem longI_bad {b : List UInt8} {i : Nat} (hi : 2 ≤ i) (h4 : i ≤ 4) (h : hd b i ≠ 0) : longI b = -1 := by
  unfold longI
  rw [if_neg]
  intro hb
  obtain ⟨h2, h3, h4', _, _⟩ := (begun_iff b).1 hb
  rcases (show i = 2 ∨ i = 3 ∨ i = 4 by omega) with rfl | rfl | rfl <;> contradiction
theorem longI_five {b : List UInt8} (h : hd b 5 < 2 ∨ 254 < hd b 5) : longI b = -1 := by
  unfold longI
  rw [if_neg]
  intro hb
  obtain ⟨_, _, _, h5, h6⟩ := (begun_iff b).1 hb
  omega
theorem longI_short {b : List UInt8} (h2 : hd b 2 = 0) (h3 : hd b 3 = 0) (h4 : hd b 4 = 0) (h : b.length < 6) : longI b = 0 := by
  unfold longI
  have h5 : hd b 5 = 2 := hd_none5 (by omega)
  rw [if_pos ((begun_iff b).2 ⟨h2, h3, h4, by omega, by omega⟩), if_pos h]
theorem longI_ok {b : List UInt8} (h2 : hd b 2 = 0) (h3 : hd b 3 = 0) (h4 : hd b 4 = 0) (h : ¬ b.length < 6) (h5 : 2 ≤ hd b 5) (h6 : hd b 5 ≤ 254) : longI b = 6 + (hd b 5 : Int) := by
  unfold longI
  rw [if_pos ((begun_iff b).2 ⟨h2, h3, h4, by omega, by omega⟩), if_neg h]
set_option maxRecDepth 100000 in
set_option maxHeartbeats 2000000 in
theorem long_any (a : Option Addr) (n c : Nat) (b : List UInt8) (B : Nat) (w : World) (hl : Sl b8 w B a n c b) :
    Calls Try.prog 20 #[.slice a n c] w (SaysI (longI b) w) := by
  have hn := len_le hl
  have hlen := hl.len
  have HL := Lib.hid hl
  have HN := Lib.hid hlen
  clear hl hlen
  go_enter Try.func20, Try.ntmps20
  go_wp2_with fail
  go_loopw [3] (fun i wr => ∃ k : Nat, 2 ≤ k ∧ k ≤ 4 ∧ i = .int .i64 (k : Int) ∧ wr = w ∧ ∀ j, 2 ≤ j → j < k → hd b j = 0) (fun i _ => 4 - (intOf i).toNat)
  case atStart => exact ⟨2, by omega, by omega, rfl, rfl, fun j h1 h2 => by omega⟩
  case round =>
    obtain ⟨k, hk2, hk4, rfl, rfl, hz⟩ := hrel
    have HZ := Lib.hid hz
    clear hz
    by_cases h4 : k < 4
    · have t1 : decide ((k : Int) < 4) = true := by simp; omega
      by_cases hkn : k < n
      · have t2 : decide ((k : Int) < (n : Int)) = true := by simp; omega
        obtain ⟨bb, off, y, rfl, hbb, hy, hcy⟩ := HL.out.at_ hkn
        have hyd := hd_at hy
        have i1 : (0 : Int) ≤ (k : Int) := by omega
        have i2 : (k : Int) < (n : Int) := by omega
        have HY := Lib.hid hyd
        clear hy hyd
        by_cases hy0 : y.toNat = 0
        · have t3 : ((y.toNat : Int) != 0) = false := by simp [hy0]
          have HY0 := Lib.hid hy0
          have i4 : k + 1 ≤ 4 := by omega
          clear hy0 h4 hkn
          go_wp2_with fail
          go_roundw
          case rel => exact ⟨k + 1, by omega, by omega, by go_num, by trivial, fun j h1 h2 => by
            by_cases hj : j = k
            · rw [hj, HY.out, HY0.out]
            · exact HZ.out j h1 (by omega)⟩
          case measure => simp [intOf]; omega
        · have t3 : ((y.toNat : Int) != 0) = true := by simp; omega
          have HA := Lib.hid (longI_bad hk2 (by omega) (by rw [HY.out]; exact hy0))
          clear hy0 h4 hkn
          go_wp2_with fail
          go_ret
          exact SaysI.mk rfl HA.out.symm rfl
      · have t2 : decide ((k : Int) < (n : Int)) = false := by simp; omega
        have t2b : decide (k < n) = false := by simp; omega
        have t5 : decide (4 < (n : Int)) = false := by simp; omega
        have t6 : decide ((n : Int) < 6) = true := by simp; omega
        have HA := Lib.hid (longI_short (b := b) (by rcases Nat.lt_or_ge 2 k with h | h; exact HZ.out 2 (by omega) h; exact hd_none (by have := HN.out; omega) (by omega)) (by rcases Nat.lt_or_ge 3 k with h | h; exact HZ.out 3 (by omega) h; exact hd_none (by have := HN.out; omega) (by omega)) (hd_none (by have := HN.out; omega) (by omega)) (by have := HN.out; omega))
        clear h4 hkn
        go_wp2_with fail
        go_ret
        exact SaysI.mk rfl HA.out.symm rfl
    · obtain rfl : k = 4 := by omega
      have h2 := Lib.hid (HZ.out 2 (by omega) (by omega))
      have h3 := Lib.hid (HZ.out 3 (by omega) (by omega))
      have t1 : decide (((4 : Nat) : Int) < 4) = false := by simp
      by_cases h5 : 4 < n
      · have t5 : decide (4 < (n : Int)) = true := by simp; omega
        obtain ⟨bb, off, y, rfl, hbb, hy, hcy⟩ := HL.out.at_ h5
        have HY := Lib.hid (hd_at hy)
        have i2 : (4 : Int) < (n : Int) := by omega
        clear hy
        by_cases hy0 : y.toNat = 0
        · have t3 : ((y.toNat : Int) != 0) = false := by simp [hy0]
          have h4z := Lib.hid (HY.out.trans hy0)
          clear hy0 h5 HY
          by_cases h6 : n < 6
          · have t6 : decide ((n : Int) < 6) = true := by simp; omega
            have HA := Lib.hid (longI_short h2.out h3.out h4z.out (by have := HN.out; omega))
            clear h6
            go_wp2_with fail
            go_ret
            exact SaysI.mk rfl HA.out.symm rfl
          · have t6 : decide ((n : Int) < 6) = false := by simp; omega
            obtain ⟨bb', off', z, e1, hbb', hz, hcz⟩ := HL.out.at_ (k := 5) (by omega)
            injection e1 with e1
            injection e1 with e1 e2
            subst e1 e2
            have HZ5 := Lib.hid (hd_at hz)
            have i5 : (5 : Int) < (n : Int) := by omega
            have hz8 := z.toNat_lt
            clear hz
            by_cases z1 : z.toNat < 2
            · have t7 : decide ((z.toNat : Int) < 2) = true := by simp; omega
              have HA := Lib.hid (longI_five (b := b) (by rw [HZ5.out]; omega))
              clear z1 h6
              go_wp2_with fail
              go_ret
              exact SaysI.mk rfl HA.out.symm rfl
            · have t7 : decide ((z.toNat : Int) < 2) = false := by simp; omega
              by_cases z2 : 254 < z.toNat
              · have t8 : decide (254 < (z.toNat : Int)) = true := by simp; omega
                have HA := Lib.hid (longI_five (b := b) (by rw [HZ5.out]; omega))
                clear z1 z2 h6
                go_wp2_with fail
                go_ret
                exact SaysI.mk rfl HA.out.symm rfl
              · have t8 : decide (254 < (z.toNat : Int)) = false := by simp; omega
                have HA := Lib.hid (longI_ok h2.out h3.out h4z.out (by have := HN.out; omega) (by rw [HZ5.out]; omega) (by rw [HZ5.out]; omega))
                clear z1 z2 h6
                go_wp2_with fail
                go_ret
                exact SaysI.mk rfl (by rw [HA.out, HZ5.out]) rfl
        · have t3 : ((y.toNat : Int) != 0) = true := by simp; omega
          have HA := Lib.hid (longI_bad (b := b) (i := 4) (by omega) (by omega) (by rw [HY.out]; exact hy0))
          clear hy0 h5
          go_wp2_with fail
          go_ret
          exact SaysI.mk rfl HA.out.symm rfl
      · have t5 : decide (4 < (n : Int)) = false := by simp; omega
        have t6 : decide ((n : Int) < 6) = true := by simp; omega
        have HA := Lib.hid (longI_short (b := b) h2.out h3.out (hd_none (by have := HN.out; omega) (by omega)) (by have := HN.out; omega))
        clear h5
        go_wp2_with fail
        go_ret
        exact SaysI.mk rfl HA.out.symm rfl
end Go.Proofs.Yteekdginloljjaa.MbW
