/- What each kind of reply checks. -/
import Derived.Test.YtamdpinfbadflaaReplyA
import Derived.Test.YtamdpinfbadflaaQuiet
open Go.RowKit
namespace Go.Proofs.Ytamdpinfbadflaa.ReplyW
open AskM ReplyM AskW Mem

theorem RSame_at (v1 v2 : Value) (a o : Rep) (aw : Option Addr) (cw : Nat) (ab : Option Addr) (cb : Nat) (ow : Option Addr) (dw : Nat) (ob : Option Addr) (db : Nat) (w : World) (h1 : v1 = repV a aw cw ab cb) (h2 : v2 = repV o ow dw ob db)
    (hA : RepAt w w.heap.size a aw cw ab cb) (hO : RepAt w w.heap.size o ow dw ob db) :
    Calls Try.prog 18 #[v1, v2] w (Says (.bool (decide (a = o))) w) := by
  subst h1 h2
  exact RSame_any a o aw cw ab cb ow dw ob db w hA hO

set_option maxHeartbeats 2000000 in
theorem bitsR_right (r : Rep) (aw : Option Addr) (cw : Nat) (ab : Option Addr) (cb : Nat) (w : World) (hA : RepAt w w.heap.size r aw cw ab cb) :
    Calls Try.prog 97 #[.agg #[], repV r aw cw ab cb] w (Says (.bool (rightK .bitsR r)) w) := by
  have l1 := len_le hA.words
  have l2 := len_le hA.bits
  have hA2 := fun o1 o2 => hA.two o1 o2
  clear hA
  obtain ⟨f1, x1, b1, s1, a1, m1⟩ := r
  simp only at l1 l2
  have hm1 := m1.toNat_lt
  by_cases h0 : 8 ≤ b1.length
  case neg =>
    have t0 : decide ((8 : Int) ≤ (b1.length : Int)) = false := by simp; omega
    have HF : Hid (rightK .bitsR ⟨f1, x1, b1, s1, a1, m1⟩ = false) := Lib.hid (by unfold rightK; simp only [countK]; simp [h0])
    clear h0
    go_enter Try.func97, Try.ntmps97
    go_wp2_with fail
    go_ret
    exact says_bool HF.out.symm (below_two _ _ _)
  have t0 : decide ((8 : Int) ≤ (b1.length : Int)) = true := by simp; omega
  by_cases h1 : b1.length ≤ 2000
  case neg =>
    have t1 : decide ((b1.length : Int) ≤ 2000) = false := by simp; omega
    have HF : Hid (rightK .bitsR ⟨f1, x1, b1, s1, a1, m1⟩ = false) := Lib.hid (by unfold rightK; simp only [countK]; simp [h1])
    clear h1
    go_enter Try.func97, Try.ntmps97
    go_wp2_with fail
    go_ret
    exact says_bool HF.out.symm (below_two _ _ _)
  have t1 : decide ((b1.length : Int) ≤ 2000) = true := by simp; omega
  by_cases h2 : b1.length % 8 = 0
  case neg =>
    have t2 : ((b1.length : Int) % 8 == 0) = false := by simp; omega
    have HF : Hid (rightK .bitsR ⟨f1, x1, b1, s1, a1, m1⟩ = false) := Lib.hid (by unfold rightK; simp only [countK]; simp [h2])
    clear h2
    go_enter Try.func97, Try.ntmps97
    go_wp2_with fail
    go_ret
    exact says_bool HF.out.symm (below_two _ _ _)
  have t2 : ((b1.length : Int) % 8 == 0) = true := by simp; omega
  have HF : Hid (rightK .bitsR ⟨f1, x1, b1, s1, a1, m1⟩ = decide ((⟨f1, x1, b1, s1, a1, m1⟩ : Rep) = ⟨f1, 0, b1, [], 0, 0⟩)) := Lib.hid (by unfold rightK; simp only [countK, onlyK]; simp [h0, h1, h2])
  obtain ⟨z, hz⟩ : ∃ z, decide ((⟨f1, x1, b1, s1, a1, m1⟩ : Rep) = ⟨f1, 0, b1, [], 0, 0⟩) = z := ⟨_, rfl⟩
  have HZ := Lib.hid hz
  rw [HF.out, hz]
  clear hz h0 h1 h2
  go_enter Try.func97, Try.ntmps97
  go_wp2_with fail
  refine (RSame_at _ _ ⟨f1, x1, b1, s1, a1, m1⟩ ⟨f1, 0, b1, [], 0, 0⟩ aw cw ab cb none 0 ab cb _ rfl rfl (hA2 _ _) ⟨Sl.none_, (hA2 _ _).bits⟩).mono ?_
  rw [HZ.out]
  rintro e w' ⟨rfl, hb⟩
  go_wp2_with fail
  go_ret
  exact ⟨rfl, (below_two w _ _).trans (hb.mono (by simp; omega))⟩
set_option maxHeartbeats 2000000 in
theorem wordsR_right (r : Rep) (aw : Option Addr) (cw : Nat) (ab : Option Addr) (cb : Nat) (w : World) (hA : RepAt w w.heap.size r aw cw ab cb) :
    Calls Try.prog 102 #[.agg #[], repV r aw cw ab cb] w (Says (.bool (rightK .wordsR r)) w) := by
  have l1 := len_le hA.words
  have l2 := len_le hA.bits
  have hA2 := fun o1 o2 => hA.two o1 o2
  clear hA
  obtain ⟨f1, x1, b1, s1, a1, m1⟩ := r
  simp only at l1 l2
  have hm1 := m1.toNat_lt
  by_cases h0 : 1 ≤ s1.length
  case neg =>
    have t0 : decide ((1 : Int) ≤ (s1.length : Int)) = false := by simp; omega
    have HF : Hid (rightK .wordsR ⟨f1, x1, b1, s1, a1, m1⟩ = false) := Lib.hid (by unfold rightK; simp only [countK]; simp [h0])
    clear h0
    go_enter Try.func102, Try.ntmps102
    go_wp2_with fail
    go_ret
    exact says_bool HF.out.symm (below_two _ _ _)
  have t0 : decide ((1 : Int) ≤ (s1.length : Int)) = true := by simp; omega
  by_cases h1 : s1.length ≤ 125
  case neg =>
    have t1 : decide ((s1.length : Int) ≤ 125) = false := by simp; omega
    have HF : Hid (rightK .wordsR ⟨f1, x1, b1, s1, a1, m1⟩ = false) := Lib.hid (by unfold rightK; simp only [countK]; simp [h1])
    clear h1
    go_enter Try.func102, Try.ntmps102
    go_wp2_with fail
    go_ret
    exact says_bool HF.out.symm (below_two _ _ _)
  have t1 : decide ((s1.length : Int) ≤ 125) = true := by simp; omega
  have HF : Hid (rightK .wordsR ⟨f1, x1, b1, s1, a1, m1⟩ = decide ((⟨f1, x1, b1, s1, a1, m1⟩ : Rep) = ⟨f1, 0, [], s1, 0, 0⟩)) := Lib.hid (by unfold rightK; simp only [countK, onlyK]; simp [h0, h1])
  obtain ⟨z, hz⟩ : ∃ z, decide ((⟨f1, x1, b1, s1, a1, m1⟩ : Rep) = ⟨f1, 0, [], s1, 0, 0⟩) = z := ⟨_, rfl⟩
  have HZ := Lib.hid hz
  rw [HF.out, hz]
  clear hz h0 h1
  go_enter Try.func102, Try.ntmps102
  go_wp2_with fail
  refine (RSame_at _ _ ⟨f1, x1, b1, s1, a1, m1⟩ ⟨f1, 0, [], s1, 0, 0⟩ aw cw ab cb aw cw none 0 _ rfl rfl (hA2 _ _) ⟨(hA2 _ _).words, Sl.none_⟩).mono ?_
  rw [HZ.out]
  rintro e w' ⟨rfl, hb⟩
  go_wp2_with fail
  go_ret
  exact ⟨rfl, (below_two w _ _).trans (hb.mono (by simp; omega))⟩
set_option maxHeartbeats 2000000 in
theorem bitW_right (r : Rep) (aw : Option Addr) (cw : Nat) (ab : Option Addr) (cb : Nat) (w : World) (hA : RepAt w w.heap.size r aw cw ab cb) :
    Calls Try.prog 107 #[.agg #[], repV r aw cw ab cb] w (Says (.bool (rightK .bitW r)) w) := by
  have l1 := len_le hA.words
  have l2 := len_le hA.bits
  have hA2 := fun o1 o2 => hA.two o1 o2
  clear hA
  obtain ⟨f1, x1, b1, s1, a1, m1⟩ := r
  simp only at l1 l2
  have hm1 := m1.toNat_lt
  by_cases h0 : b1.length = 1
  case neg =>
    have t0 : ((b1.length : Int) == 1) = false := by simp; omega
    have HF : Hid (rightK .bitW ⟨f1, x1, b1, s1, a1, m1⟩ = false) := Lib.hid (by unfold rightK; simp only [countK]; simp [h0])
    clear h0
    go_enter Try.func107, Try.ntmps107
    go_wp2_with fail
    go_ret
    exact says_bool HF.out.symm (below_two _ _ _)
  have t0 : ((b1.length : Int) == 1) = true := by simp; omega
  have HF : Hid (rightK .bitW ⟨f1, x1, b1, s1, a1, m1⟩ = decide ((⟨f1, x1, b1, s1, a1, m1⟩ : Rep) = ⟨f1, 0, b1, [], a1, 0⟩)) := Lib.hid (by unfold rightK; simp only [countK, onlyK]; simp [h0])
  obtain ⟨z, hz⟩ : ∃ z, decide ((⟨f1, x1, b1, s1, a1, m1⟩ : Rep) = ⟨f1, 0, b1, [], a1, 0⟩) = z := ⟨_, rfl⟩
  have HZ := Lib.hid hz
  rw [HF.out, hz]
  clear hz h0
  go_enter Try.func107, Try.ntmps107
  go_wp2_with fail
  refine (RSame_at _ _ ⟨f1, x1, b1, s1, a1, m1⟩ ⟨f1, 0, b1, [], a1, 0⟩ aw cw ab cb none 0 ab cb _ rfl rfl (hA2 _ _) ⟨Sl.none_, (hA2 _ _).bits⟩).mono ?_
  rw [HZ.out]
  rintro e w' ⟨rfl, hb⟩
  go_wp2_with fail
  go_ret
  exact ⟨rfl, (below_two w _ _).trans (hb.mono (by simp; omega))⟩
set_option maxHeartbeats 2000000 in
theorem wordW_right (r : Rep) (aw : Option Addr) (cw : Nat) (ab : Option Addr) (cb : Nat) (w : World) (hA : RepAt w w.heap.size r aw cw ab cb) :
    Calls Try.prog 111 #[.agg #[], repV r aw cw ab cb] w (Says (.bool (rightK .wordW r)) w) := by
  have l1 := len_le hA.words
  have l2 := len_le hA.bits
  have hA2 := fun o1 o2 => hA.two o1 o2
  clear hA
  obtain ⟨f1, x1, b1, s1, a1, m1⟩ := r
  simp only at l1 l2
  have hm1 := m1.toNat_lt
  by_cases h0 : s1.length = 1
  case neg =>
    have t0 : ((s1.length : Int) == 1) = false := by simp; omega
    have HF : Hid (rightK .wordW ⟨f1, x1, b1, s1, a1, m1⟩ = false) := Lib.hid (by unfold rightK; simp only [countK]; simp [h0])
    clear h0
    go_enter Try.func111, Try.ntmps111
    go_wp2_with fail
    go_ret
    exact says_bool HF.out.symm (below_two _ _ _)
  have t0 : ((s1.length : Int) == 1) = true := by simp; omega
  have HF : Hid (rightK .wordW ⟨f1, x1, b1, s1, a1, m1⟩ = decide ((⟨f1, x1, b1, s1, a1, m1⟩ : Rep) = ⟨f1, 0, [], s1, a1, 0⟩)) := Lib.hid (by unfold rightK; simp only [countK, onlyK]; simp [h0])
  obtain ⟨z, hz⟩ : ∃ z, decide ((⟨f1, x1, b1, s1, a1, m1⟩ : Rep) = ⟨f1, 0, [], s1, a1, 0⟩) = z := ⟨_, rfl⟩
  have HZ := Lib.hid hz
  rw [HF.out, hz]
  clear hz h0
  go_enter Try.func111, Try.ntmps111
  go_wp2_with fail
  refine (RSame_at _ _ ⟨f1, x1, b1, s1, a1, m1⟩ ⟨f1, 0, [], s1, a1, 0⟩ aw cw ab cb aw cw none 0 _ rfl rfl (hA2 _ _) ⟨(hA2 _ _).words, Sl.none_⟩).mono ?_
  rw [HZ.out]
  rintro e w' ⟨rfl, hb⟩
  go_wp2_with fail
  go_ret
  exact ⟨rfl, (below_two w _ _).trans (hb.mono (by simp; omega))⟩
set_option maxHeartbeats 2000000 in
theorem listW_right (r : Rep) (M : Nat) (aw : Option Addr) (cw : Nat) (ab : Option Addr) (cb : Nat) (w : World) (hA : RepAt w w.heap.size r aw cw ab cb) :
    Calls Try.prog 114 #[.agg #[.int .u16 (M : Int)], repV r aw cw ab cb] w (Says (.bool (rightK (.listW M) r)) w) := by
  have l1 := len_le hA.words
  have l2 := len_le hA.bits
  have hA2 := fun o1 o2 => hA.two o1 o2
  clear hA
  obtain ⟨f1, x1, b1, s1, a1, m1⟩ := r
  simp only at l1 l2
  have hm1 := m1.toNat_lt
  by_cases h0 : 1 ≤ m1.toNat
  case neg =>
    have t0 : decide ((1 : Int) ≤ (m1.toNat : Int)) = false := by simp; omega
    have HF : Hid (rightK (.listW M) ⟨f1, x1, b1, s1, a1, m1⟩ = false) := Lib.hid (by unfold rightK; simp only [countK]; simp [h0])
    clear h0
    go_enter Try.func114, Try.ntmps114
    go_wp2_with fail
    go_ret
    exact says_bool HF.out.symm (below_two _ _ _)
  have t0 : decide ((1 : Int) ≤ (m1.toNat : Int)) = true := by simp; omega
  by_cases h1 : m1.toNat ≤ M
  case neg =>
    have t1 : decide (m1.toNat ≤ M) = false := by simp; omega
    have HF : Hid (rightK (.listW M) ⟨f1, x1, b1, s1, a1, m1⟩ = false) := Lib.hid (by unfold rightK; simp only [countK]; simp [h1])
    clear h1
    go_enter Try.func114, Try.ntmps114
    go_wp2_with fail
    go_ret
    exact says_bool HF.out.symm (below_two _ _ _)
  have t1 : decide (m1.toNat ≤ M) = true := by simp; omega
  have HF : Hid (rightK (.listW M) ⟨f1, x1, b1, s1, a1, m1⟩ = decide ((⟨f1, x1, b1, s1, a1, m1⟩ : Rep) = ⟨f1, 0, [], [], a1, m1⟩)) := Lib.hid (by unfold rightK; simp only [countK, onlyK]; simp [h0, h1])
  obtain ⟨z, hz⟩ : ∃ z, decide ((⟨f1, x1, b1, s1, a1, m1⟩ : Rep) = ⟨f1, 0, [], [], a1, m1⟩) = z := ⟨_, rfl⟩
  have HZ := Lib.hid hz
  rw [HF.out, hz]
  clear hz h0 h1
  go_enter Try.func114, Try.ntmps114
  go_wp2_with fail
  refine (RSame_at _ _ ⟨f1, x1, b1, s1, a1, m1⟩ ⟨f1, 0, [], [], a1, m1⟩ aw cw ab cb none 0 none 0 _ rfl rfl (hA2 _ _) ⟨Sl.none_, Sl.none_⟩).mono ?_
  rw [HZ.out]
  rintro e w' ⟨rfl, hb⟩
  go_wp2_with fail
  go_ret
  exact ⟨rfl, (below_two w _ _).trans (hb.mono (by simp; omega))⟩
theorem enters_wrong (args : Array Value) (w : World) : (callFunc 22 args).run Try.prog w = .ok (.enter 22 args) w := by
  have h := Try.func22
  unfold callFunc
  rw [Sem.run_bind]
  simp only [run_program, Result.andThen_ok, h]
  have e1 : (Try.f22.name == "runtime.NumGoroutine") = false := by kernel_rfl
  have e2 : Try.f22.body.isNone = false := by kernel_rfl
  rw [e1, e2]
  rfl
theorem enters_rsame (args : Array Value) (w : World) : (callFunc 18 args).run Try.prog w = .ok (.enter 18 args) w := by
  have h := Try.func18
  unfold callFunc
  rw [Sem.run_bind]
  simp only [run_program, Result.andThen_ok, h]
  have e1 : (Try.f18.name == "runtime.NumGoroutine") = false := by kernel_rfl
  have e2 : Try.f18.body.isNone = false := by kernel_rfl
  rw [e1, e2]
  rfl
set_option maxRecDepth 100000 in
set_option maxHeartbeats 4000000 in
theorem exc_right (r : Rep) (aw : Option Addr) (cw : Nat) (ab : Option Addr) (cb : Nat) (w : World) (hA : RepAt w w.heap.size r aw cw ab cb) :
    Calls Try.prog 94 #[.agg #[], repV r aw cw ab cb] w (Says (.bool (rightK .exc r)) w) := by
  have HA2 := Lib.hid (fun o1 o2 => hA.two o1 o2)
  clear hA
  obtain ⟨f1, x1, b1, s1, a1, m1⟩ := r
  obtain ⟨z, hz⟩ : ∃ z, decide ((⟨f1, x1, b1, s1, a1, m1⟩ : Rep) = wrongN f1 x1) = z := ⟨_, rfl⟩
  have HF : Hid (rightK .exc ⟨f1, x1, b1, s1, a1, m1⟩ = (decide (1 ≤ x1.toNat) && decide (x1.toNat ≤ 4) && z)) := Lib.hid (by show (decide _ && decide _ && decide ((⟨f1, x1, b1, s1, a1, m1⟩ : Rep) = wrongN f1 x1)) = _; rw [hz])
  have HZ := Lib.hid hz
  clear hz
  have hx := x1.toNat_lt
  go_enter Try.func94, Try.ntmps94
  go_wp2_with fail
  have HH := heap_alloc_new (w.alloc (.cells #[] 112)) (.cells #[.int .u8 (f1.toNat : Int), .int .u8 (x1.toNat : Int), .slice ab b1.length cb, .slice aw s1.length cw, .int .u16 (a1.toNat : Int), .int .u16 (m1.toNat : Int)] 36)
  have HB0 := below_two w (.cells #[] 112) (.cells #[.int .u8 (f1.toNat : Int), .int .u8 (x1.toNat : Int), .slice ab b1.length cb, .slice aw s1.length cw, .int .u16 (a1.toNat : Int), .int .u16 (m1.toNat : Int)] 36)
  have HA := HA2.out (.cells #[] 112) (.cells #[.int .u8 (f1.toNat : Int), .int .u8 (x1.toNat : Int), .slice ab b1.length cb, .slice aw s1.length cw, .int .u16 (a1.toNat : Int), .int .u16 (m1.toNat : Int)] 36)
  have hs1 : (w.alloc (.cells #[] 112)).heap.size = w.heap.size + 1 := by simp
  rw [hs1] at HH
  have hs2 : ((w.alloc (.cells #[] 112)).alloc (.cells #[.int .u8 (f1.toNat : Int), .int .u8 (x1.toNat : Int), .slice ab b1.length cb, .slice aw s1.length cw, .int .u16 (a1.toNat : Int), .int .u16 (m1.toNat : Int)] 36)).heap.size = w.heap.size + 2 := by simp
  generalize (w.alloc (.cells #[] 112)).alloc (.cells #[.int .u8 (f1.toNat : Int), .int .u8 (x1.toNat : Int), .slice ab b1.length cb, .slice aw s1.length cw, .int .u16 (a1.toNat : Int), .int .u16 (m1.toNat : Int)] 36) = W0 at *
  have HR : ∀ W, Below W0.heap.size W0 W → W.heap[w.heap.size + 1]? = some (.cells #[.int .u8 (f1.toNat : Int), .int .u8 (x1.toNat : Int), .slice ab b1.length cb, .slice aw s1.length cw, .int .u16 (a1.toNat : Int), .int .u16 (m1.toNat : Int)] 36 (0, 0)) := fun W h => (h.block _ (by omega)).trans HH
  have HW : ∀ W, Below W0.heap.size W0 W → Calls Try.prog 22 #[.int .u8 (f1.toNat : Int), .int .u8 (x1.toNat : Int)] W fun e W' => e = .returned (.agg #[.int .u8 ((f1 % 128 : UInt8).toNat : Int), .int .u8 (x1.toNat : Int), .slice none 0 0, .slice none 0 0, .int .u16 0, .int .u16 0]) ∧ Below W0.heap.size W0 W' := fun W h => (Wrong_any f1 x1 W).mono fun _ _ ⟨he, hb⟩ => ⟨he, h.trans (hb.mono h.size)⟩
  have HS : ∀ W, Below W0.heap.size W0 W → Calls Try.prog 18 #[.agg #[.int .u8 (f1.toNat : Int), .int .u8 (x1.toNat : Int), .slice ab b1.length cb, .slice aw s1.length cw, .int .u16 (a1.toNat : Int), .int .u16 (m1.toNat : Int)], .agg #[.int .u8 ((f1 % 128 : UInt8).toNat : Int), .int .u8 (x1.toNat : Int), .slice none 0 0, .slice none 0 0, .int .u16 0, .int .u16 0]] W fun e W' => e = .returned (.bool z) ∧ Below W0.heap.size W0 W' := fun W h => (RSame_at _ _ ⟨f1, x1, b1, s1, a1, m1⟩ (wrongN f1 x1) aw cw ab cb none 0 none 0 W rfl rfl (HA.below h) ⟨Sl.none_, Sl.none_⟩).mono fun _ _ ⟨he, hb⟩ => ⟨by rw [he, HZ.out], h.trans (hb.mono h.size)⟩
  by_cases h1 : 1 ≤ x1.toNat
  case neg =>
    refine region_quiet (fun W => Below W0.heap.size W0 W) (by kernel_rfl) (by kernel_rfl) (Below.refl _ _).drew ?_
    intro ops Q' hops hQ
    refine QP.val (.pointer (some ⟨w.heap.size + 1, 1, none⟩)) (by rfl) (fun wC hC => by kernel_rfl) ?_
    refine QP.val (.int .u8 (x1.toNat : Int)) (by rfl) (fun wC hC => runq_load_int (p := ⟨w.heap.size + 1, 1, none⟩) rfl (by kernel_rfl) (cell_of_row _ _ 1 _ _ _ (HR wC hC)) Try.underlying5) ?_
    refine QP.val (.bool false) (by rfl) (fun wC hC => runq_geq (k := .u8) (p := (x1.toNat : Int)) (q := 1) rfl (by kernel_rfl) (by kernel_rfl) (by simp; omega)) ?_
    refine QP.val (.bool false) (by rfl) (fun wC hC => runq_move rfl (by kernel_rfl)) ?_
    refine QP.skip (wantedq (j := 3) (d := 8) (want := true) (b := false) rfl (by rw [hops.out]; rfl) (by kernel_rfl) rfl) ?_
    refine QP.skip (wantedq (j := 3) (d := 8) (want := true) (b := false) rfl (by rw [hops.out]; rfl) (by kernel_rfl) rfl) ?_
    refine QP.skip (wantedq (j := 3) (d := 8) (want := true) (b := false) rfl (by rw [hops.out]; rfl) (by kernel_rfl) rfl) ?_
    refine QP.val (.bool false) (by rfl) (fun wC hC => runq_pick (c := false) rfl (by kernel_rfl) (by kernel_rfl)) ?_
    refine QP.val (.bool false) (by rfl) (fun wC hC => runq_move rfl (by kernel_rfl)) ?_
    refine QP.skip (wantedq (j := 8) (d := 13) (want := true) (b := false) rfl (by rw [hops.out]; rfl) (by kernel_rfl) rfl) ?_
    refine QP.skip (wantedq (j := 8) (d := 13) (want := true) (b := false) rfl (by rw [hops.out]; rfl) (by kernel_rfl) rfl) ?_
    refine QP.skip (wantedq (j := 8) (d := 13) (want := true) (b := false) rfl (by rw [hops.out]; rfl) (by kernel_rfl) rfl) ?_
    refine QP.skip (wantedq (j := 8) (d := 13) (want := true) (b := false) rfl (by rw [hops.out]; rfl) (by kernel_rfl) rfl) ?_
    refine QP.skip (wantedq (j := 8) (d := 13) (want := true) (b := false) rfl (by rw [hops.out]; rfl) (by kernel_rfl) rfl) ?_
    refine QP.skip (wantedq (j := 8) (d := 13) (want := true) (b := false) rfl (by rw [hops.out]; rfl) (by kernel_rfl) rfl) ?_
    refine QP.skip (wantedq (j := 8) (d := 13) (want := true) (b := false) rfl (by rw [hops.out]; rfl) (by kernel_rfl) rfl) ?_
    refine QP.val (.bool false) (by rfl) (fun wC hC => runq_pick (c := false) rfl (by kernel_rfl) (by kernel_rfl)) ?_
    refine QP.val (.bool false) (by rfl) (fun wC hC => runq_assign rfl (by kernel_rfl)) ?_
    refine QP.nil (hQ.out _ fun w8 hC => ?_)
    simp only [Act.put, List.setIfInBounds_toArray, List.set_cons_succ, List.set_cons_zero]
    clear hops hQ HR HW HS HH
    go_wp2_with fail
    go_ret
    exact ⟨by rw [HF.out]; simp [h1], HB0.trans (hC.mono HB0.size)⟩
  by_cases h2 : x1.toNat ≤ 4
  case neg =>
    refine region_quiet (fun W => Below W0.heap.size W0 W) (by kernel_rfl) (by kernel_rfl) (Below.refl _ _).drew ?_
    intro ops Q' hops hQ
    refine QP.val (.pointer (some ⟨w.heap.size + 1, 1, none⟩)) (by rfl) (fun wC hC => by kernel_rfl) ?_
    refine QP.val (.int .u8 (x1.toNat : Int)) (by rfl) (fun wC hC => runq_load_int (p := ⟨w.heap.size + 1, 1, none⟩) rfl (by kernel_rfl) (cell_of_row _ _ 1 _ _ _ (HR wC hC)) Try.underlying5) ?_
    refine QP.val (.bool true) (by rfl) (fun wC hC => runq_geq (k := .u8) (p := (x1.toNat : Int)) (q := 1) rfl (by kernel_rfl) (by kernel_rfl) (by simp; omega)) ?_
    refine QP.val (.bool true) (by rfl) (fun wC hC => runq_move rfl (by kernel_rfl)) ?_
    refine QP.val (.pointer (some ⟨w.heap.size + 1, 1, none⟩)) (wantedq (j := 3) (d := 8) (want := true) (b := true) rfl (by rw [hops.out]; rfl) (by kernel_rfl) rfl) (fun wC hC => by kernel_rfl) ?_
    refine QP.val (.int .u8 (x1.toNat : Int)) (wantedq (j := 3) (d := 8) (want := true) (b := true) rfl (by rw [hops.out]; rfl) (by kernel_rfl) rfl) (fun wC hC => runq_load_int (p := ⟨w.heap.size + 1, 1, none⟩) rfl (by kernel_rfl) (cell_of_row _ _ 1 _ _ _ (HR wC hC)) Try.underlying5) ?_
    refine QP.val (.bool false) (wantedq (j := 3) (d := 8) (want := true) (b := true) rfl (by rw [hops.out]; rfl) (by kernel_rfl) rfl) (fun wC hC => runq_leq (k := .u8) (p := (x1.toNat : Int)) (q := 4) rfl (by kernel_rfl) (by kernel_rfl) (by simp; omega)) ?_
    refine QP.val (.bool false) (by rfl) (fun wC hC => runq_pick (c := true) rfl (by kernel_rfl) (by kernel_rfl)) ?_
    refine QP.val (.bool false) (by rfl) (fun wC hC => runq_move rfl (by kernel_rfl)) ?_
    refine QP.skip (wantedq (j := 8) (d := 13) (want := true) (b := false) rfl (by rw [hops.out]; rfl) (by kernel_rfl) rfl) ?_
    refine QP.skip (wantedq (j := 8) (d := 13) (want := true) (b := false) rfl (by rw [hops.out]; rfl) (by kernel_rfl) rfl) ?_
    refine QP.skip (wantedq (j := 8) (d := 13) (want := true) (b := false) rfl (by rw [hops.out]; rfl) (by kernel_rfl) rfl) ?_
    refine QP.skip (wantedq (j := 8) (d := 13) (want := true) (b := false) rfl (by rw [hops.out]; rfl) (by kernel_rfl) rfl) ?_
    refine QP.skip (wantedq (j := 8) (d := 13) (want := true) (b := false) rfl (by rw [hops.out]; rfl) (by kernel_rfl) rfl) ?_
    refine QP.skip (wantedq (j := 8) (d := 13) (want := true) (b := false) rfl (by rw [hops.out]; rfl) (by kernel_rfl) rfl) ?_
    refine QP.skip (wantedq (j := 8) (d := 13) (want := true) (b := false) rfl (by rw [hops.out]; rfl) (by kernel_rfl) rfl) ?_
    refine QP.val (.bool false) (by rfl) (fun wC hC => runq_pick (c := false) rfl (by kernel_rfl) (by kernel_rfl)) ?_
    refine QP.val (.bool false) (by rfl) (fun wC hC => runq_assign rfl (by kernel_rfl)) ?_
    refine QP.nil (hQ.out _ fun w8 hC => ?_)
    simp only [Act.put, List.setIfInBounds_toArray, List.set_cons_succ, List.set_cons_zero]
    clear hops hQ HR HW HS HH
    go_wp2_with fail
    go_ret
    exact ⟨by rw [HF.out]; simp [h1, h2], HB0.trans (hC.mono HB0.size)⟩
  refine region_quiet (fun W => Below W0.heap.size W0 W) (by kernel_rfl) (by kernel_rfl) (Below.refl _ _).drew ?_
  intro ops Q' hops hQ
  refine QP.val (.pointer (some ⟨w.heap.size + 1, 1, none⟩)) (by rfl) (fun wC hC => by kernel_rfl) ?_
  refine QP.val (.int .u8 (x1.toNat : Int)) (by rfl) (fun wC hC => runq_load_int (p := ⟨w.heap.size + 1, 1, none⟩) rfl (by kernel_rfl) (cell_of_row _ _ 1 _ _ _ (HR wC hC)) Try.underlying5) ?_
  refine QP.val (.bool true) (by rfl) (fun wC hC => runq_geq (k := .u8) (p := (x1.toNat : Int)) (q := 1) rfl (by kernel_rfl) (by kernel_rfl) (by simp; omega)) ?_
  refine QP.val (.bool true) (by rfl) (fun wC hC => runq_move rfl (by kernel_rfl)) ?_
  refine QP.val (.pointer (some ⟨w.heap.size + 1, 1, none⟩)) (wantedq (j := 3) (d := 8) (want := true) (b := true) rfl (by rw [hops.out]; rfl) (by kernel_rfl) rfl) (fun wC hC => by kernel_rfl) ?_
  refine QP.val (.int .u8 (x1.toNat : Int)) (wantedq (j := 3) (d := 8) (want := true) (b := true) rfl (by rw [hops.out]; rfl) (by kernel_rfl) rfl) (fun wC hC => runq_load_int (p := ⟨w.heap.size + 1, 1, none⟩) rfl (by kernel_rfl) (cell_of_row _ _ 1 _ _ _ (HR wC hC)) Try.underlying5) ?_
  refine QP.val (.bool true) (wantedq (j := 3) (d := 8) (want := true) (b := true) rfl (by rw [hops.out]; rfl) (by kernel_rfl) rfl) (fun wC hC => runq_leq (k := .u8) (p := (x1.toNat : Int)) (q := 4) rfl (by kernel_rfl) (by kernel_rfl) (by simp; omega)) ?_
  refine QP.val (.bool true) (by rfl) (fun wC hC => runq_pick (c := true) rfl (by kernel_rfl) (by kernel_rfl)) ?_
  refine QP.val (.bool true) (by rfl) (fun wC hC => runq_move rfl (by kernel_rfl)) ?_
  refine QP.val (.agg #[.int .u8 (f1.toNat : Int), .int .u8 (x1.toNat : Int), .slice ab b1.length cb, .slice aw s1.length cw, .int .u16 (a1.toNat : Int), .int .u16 (m1.toNat : Int)]) (wantedq (j := 8) (d := 13) (want := true) (b := true) rfl (by rw [hops.out]; rfl) (by kernel_rfl) rfl) (fun wC hC => runq_load_row (t := 36) (g := w.heap.size + 1) (fr := (0, 0)) rfl (by kernel_rfl) (HR wC hC) Try.underlying36 rfl (by kernel_rfl)) ?_
  refine QP.val (.pointer (some ⟨w.heap.size + 1, 0, none⟩)) (wantedq (j := 8) (d := 13) (want := true) (b := true) rfl (by rw [hops.out]; rfl) (by kernel_rfl) rfl) (fun wC hC => by kernel_rfl) ?_
  refine QP.val (.int .u8 (f1.toNat : Int)) (wantedq (j := 8) (d := 13) (want := true) (b := true) rfl (by rw [hops.out]; rfl) (by kernel_rfl) rfl) (fun wC hC => runq_load_int (p := ⟨w.heap.size + 1, 0, none⟩) rfl (by kernel_rfl) (cell_of_row _ _ 0 _ _ _ (HR wC hC)) Try.underlying5) ?_
  refine QP.val (.pointer (some ⟨w.heap.size + 1, 1, none⟩)) (wantedq (j := 8) (d := 13) (want := true) (b := true) rfl (by rw [hops.out]; rfl) (by kernel_rfl) rfl) (fun wC hC => by kernel_rfl) ?_
  refine QP.val (.int .u8 (x1.toNat : Int)) (wantedq (j := 8) (d := 13) (want := true) (b := true) rfl (by rw [hops.out]; rfl) (by kernel_rfl) rfl) (fun wC hC => runq_load_int (p := ⟨w.heap.size + 1, 1, none⟩) rfl (by kernel_rfl) (cell_of_row _ _ 1 _ _ _ (HR wC hC)) Try.underlying5) ?_
  refine QP.call 22 #[.int .u8 (f1.toNat : Int), .int .u8 (x1.toNat : Int)] (.agg #[.int .u8 ((f1 % 128 : UInt8).toNat : Int), .int .u8 (x1.toNat : Int), .slice none 0 0, .slice none 0 0, .int .u16 0, .int .u16 0]) (wantedq (j := 8) (d := 13) (want := true) (b := true) rfl (by rw [hops.out]; rfl) (by kernel_rfl) rfl) (fun wC hC => (congrArg (fun s => Sem.run Try.prog s wC) (by kernel_rfl)).trans (enters_wrong #[.int .u8 (f1.toNat : Int), .int .u8 (x1.toNat : Int)] wC)) (fun wC hC => HW wC hC) ?_
  refine QP.call 18 #[.agg #[.int .u8 (f1.toNat : Int), .int .u8 (x1.toNat : Int), .slice ab b1.length cb, .slice aw s1.length cw, .int .u16 (a1.toNat : Int), .int .u16 (m1.toNat : Int)], .agg #[.int .u8 ((f1 % 128 : UInt8).toNat : Int), .int .u8 (x1.toNat : Int), .slice none 0 0, .slice none 0 0, .int .u16 0, .int .u16 0]] (.bool z) (wantedq (j := 8) (d := 13) (want := true) (b := true) rfl (by rw [hops.out]; rfl) (by kernel_rfl) rfl) (fun wC hC => (congrArg (fun s => Sem.run Try.prog s wC) (by kernel_rfl)).trans (enters_rsame #[.agg #[.int .u8 (f1.toNat : Int), .int .u8 (x1.toNat : Int), .slice ab b1.length cb, .slice aw s1.length cw, .int .u16 (a1.toNat : Int), .int .u16 (m1.toNat : Int)], .agg #[.int .u8 ((f1 % 128 : UInt8).toNat : Int), .int .u8 (x1.toNat : Int), .slice none 0 0, .slice none 0 0, .int .u16 0, .int .u16 0]] wC)) (fun wC hC => HS wC hC) ?_
  refine QP.val (.bool z) (by rfl) (fun wC hC => runq_pick (c := true) rfl (by kernel_rfl) (by kernel_rfl)) ?_
  refine QP.val (.bool z) (by rfl) (fun wC hC => runq_assign rfl (by kernel_rfl)) ?_
  refine QP.nil (hQ.out _ fun w8 hC => ?_)
  simp only [Act.put, List.setIfInBounds_toArray, List.set_cons_succ, List.set_cons_zero]
  clear hops hQ HR HW HS HH
  go_wp2_with fail
  go_ret
  exact ⟨by rw [HF.out]; simp [h1, h2], HB0.trans (hC.mono HB0.size)⟩
end Go.Proofs.Ytamdpinfbadflaa.ReplyW
