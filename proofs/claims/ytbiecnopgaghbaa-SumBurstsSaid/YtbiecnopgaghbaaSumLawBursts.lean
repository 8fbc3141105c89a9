/- SumBursts, walked: bits turned in a copy of bytes. -/
import Derived.Test.YtbiecnopgaghbaaSumZ
import Derived.Test.YtbiecnopgaghbaaSumAwake
import Derived.Test.YtbiecnopgaghbaaStep
import Derived.Test.YtbiecnopgaghbaaQuiet
import Derived.RegionTactic
import Derived.Deep.RegionWith
open Go.RowKit
namespace Go.Proofs.Ytbiecnopgaghbaa.SumW
open SumM Mem

theorem enters_bytes (args : Array Value) (w : World) : (callFunc 11 args).run Try.prog w = .ok (.enter 11 args) w := by
  have h := Try.func11
  unfold callFunc
  rw [Sem.run_bind]
  simp only [run_program, Result.andThen_ok, h]
  have e1 : (Try.f11.name == "runtime.NumGoroutine") = false := by kernel_rfl
  have e2 : Try.f11.body.isNone = false := by kernel_rfl
  rw [e1, e2]
  rfl
theorem enters_awake (args : Array Value) (w : World) : (callFunc 8 args).run Try.prog w = .ok (.enter 8 args) w := by
  have h := Try.func8
  unfold callFunc
  rw [Sem.run_bind]
  simp only [run_program, Result.andThen_ok, h]
  have e1 : (Try.f8.name == "runtime.NumGoroutine") = false := by kernel_rfl
  have e2 : Try.f8.body.isNone = false := by kernel_rfl
  rw [e1, e2]
  rfl
theorem runq_conv {P : Program} {o : Oper} {w : World} {ev : Operand → Value} {S T : TypeId} {x : Operand} {v u : Value} (ho : o.op = Op.convert S T x) (hx : ev x = v) (hr : (convert S T v).run P w = .ok u w) : (execOp ev o).run P w = .ok (.value u) w := by
  simp [execOp, ho, hx, hr, go_sem]
theorem runq_neqs {P : Program} {o : Oper} {w : World} {ev : Operand → Value} {S T : TypeId} {x y : Operand} {p q : ByteArray} (ho : o.op = Op.binOp .neq T x y S) (hx : ev x = .string p) (hy : ev y = .string q) {b : Bool} (hb : (p.toList == q.toList) = b) : (execOp ev o).run P w = .ok (.value (.bool !b)) w := by
  subst hb
  simp [execOp, ho, hx, hy, go_sem]
theorem flip_bit (x : UInt8) (i : Nat) : bits .xor .u8 (x.toNat : Int) (2 ^ (i % 8) % 256) = ((x ^^^ UInt8.ofNat (2 ^ (i % 8))).toNat : Int) := by
  have h8 : i % 8 < 8 := by omega
  have h2 : 2 ^ (i % 8) < 2 ^ 8 := Nat.pow_lt_pow_right (by omega) h8
  have h := u8_xor_nat x.toNat (2 ^ (i % 8)) x.toNat_lt h2
  rw [UInt8.toNat_xor, ofNat_pow h8, ← h]
  congr 1
  have h3 : (2 : Int) ^ (i % 8) = ((2 ^ (i % 8) : Nat) : Int) := by simp
  rw [h3]
  generalize (2 : Nat) ^ (i % 8) = z at *
  omega
theorem flip_set {m : List UInt8} {i : Nat} {x : UInt8} (h : m[i / 8]? = some x) : flipAt m i = m.set (i / 8) (x ^^^ UInt8.ofNat (2 ^ (i % 8))) := by
  unfold flipAt
  apply List.ext_getElem?
  intro k
  rw [List.getElem?_modify, List.getElem?_set]
  by_cases hk : i / 8 = k
  · subst hk
    rw [h, if_pos rfl, if_pos (List.getElem?_eq_some_iff.1 h).1]
    simp
  · rw [if_neg hk]
    simp [hk]
theorem own_at {w : World} {base n : Nat} {T : TypeId} {v : Value} {l : List UInt8} (h : w.ownsRow base T 1 v n (l.map b8)) (hn : 0 < n) : ∃ g c, v = .slice (some ⟨g, 0, none⟩) n c ∧ base ≤ g ∧ g < w.heap.size := by
  obtain ⟨g, c, rfl⟩ := own_some h hn
  have := h.lt g rfl
  exact ⟨g, c, rfl, this.1, this.2⟩

set_option maxRecDepth 100000 in
set_option maxHeartbeats 2000000 in
theorem SumBursts_walk (a : Option Addr) (n c : Nat) (l : List UInt8) (at0 p : Nat) (w : World) (hl : Sl b8 w w.heap.size a n c l) (hat : at0 < 65536) (hp : p < 4294967296) :
    Calls Try.prog 4 #[.slice a n c, .int .u16 (at0 : Int), .int .u32 (p : Int)] w (Says (.bool true) w) := by
  by_cases hn1 : 500 < n
  · have t1 : decide ((500 : Int) < (n : Int)) = true := by simp; omega
    clear hl
    go_enter Try.func4, Try.ntmps4
    go_wp2_with fail
    refine (awake_any _).mono ?_
    rintro e w1 ⟨rfl, b1⟩
    go_wp2
    go_ret
    exact Says.mk b1
  have t1 : decide ((500 : Int) < (n : Int)) = false := by simp; omega
  by_cases hn0 : n = 0
  · have t2 : ((n : Int) == 0) = true := by simp; omega
    clear hl hn0
    go_enter Try.func4, Try.ntmps4
    go_wp2_with fail
    refine (awake_any _).mono ?_
    rintro e w1 ⟨rfl, b1⟩
    go_wp2
    go_ret
    exact Says.mk b1
  have t2 : ((n : Int) == 0) = false := by simp; omega
  have h0 : 0 < n := by omega
  have hlen := hl.len
  obtain ⟨i0, hi, hz0, hz1, hz2⟩ := info_parts info8
  have hz2' : i0.bytes = 1 := hz2
  have HX := Lib.hid (And.intro hi (And.intro hz0 (And.intro hz1 hz2')))
  have HL := Lib.hid hl
  have HLEN := Lib.hid hlen
  obtain ⟨at_, hA⟩ : ∃ at_ : Nat, (at0 : Int) % (8 * (n : Int)) = (at_ : Int) := ⟨at0 % (8 * n), by simp⟩
  have hlt8 : at_ < 8 * n := by
    have := Int.emod_lt_of_pos (at0 : Int) (show 0 < 8 * (n : Int) by omega)
    omega
  have t3 : ((8 * (n : Int)) == 0) = false := by simp; omega
  clear hl hi hz0 hz1 hz2 hz2' hn0 hlen
  go_enter Try.func4, Try.ntmps4
  go_wp2_with (at_builtin; go_loud (refine wpList_append_sl (f := b8) b8_one rfl (.tmp 20) (.tmp 21) 23 rfl w.heap.size 5 i0 (.int .u8 0) 1 Try.underlying23 HX.out.1 HX.out.2.1 HX.out.2.2.1 HX.out.2.2.2 rfl (.slice (some ⟨w.heap.size, 0, none⟩) 0 0) 0 [] rfl (World.ownsRow_made w #[] 0 (Nat.le_refl _) (by unfold maxLen; omega) rfl) a n c rfl (HL.out.alloc (Nat.le_refl _) _) (by unfold maxLen; omega) (by omega) (by simp) ?_; intro v4 w4 hown4 hgrow4; simp only [Nat.zero_add, List.nil_append] at hown4; obtain ⟨g, cap, hv4, hg1, hg2⟩ := own_at hown4 h0; subst hv4; have HW4 := Lib.hid (((Below.refl w.heap.size w).alloc (Nat.le_refl _) (.cells #[] 5)).grown hgrow4 (by simp) (by simp [Value.ownBlock])); have HO := Lib.hid hown4; clear hown4 hgrow4))
  rw [hA]
  clear hA
  go_loopw [29] (fun i wr => ∃ j : Nat, j ≤ 32 ∧ i = .int .i64 j ∧ wr.ownsRow w.heap.size 5 1 (.slice (some ⟨g, 0, none⟩) n cap) n ((spoilK l at_ p j).map b8) ∧ Below w.heap.size w wr) (fun i _ => 32 - (intOf i).toNat)
  case atStart => exact ⟨0, by omega, rfl, HO.out, HW4.out⟩
  case round =>
    obtain ⟨j, hj, rfl, ho, hb⟩ := hrel
    by_cases hlt : j < 32
    · by_cases hbit : p.testBit j = true
      case neg =>
        have tb := bit_off (p := p) (j := j) hp (by simpa using hbit)
        have HA : Hid (spoilK l at_ p (j + 1) = spoilK l at_ p j) := Lib.hid (by simp only [spoilK]; rw [if_neg (fun h => hbit h.1)])
        have HO1 := Lib.hid ho
        have HB1 := Lib.hid hb
        clear ho hb hbit
        go_wp2_with fail
        go_roundw
        case rel => exact ⟨j + 1, by omega, by go_num, by rw [HA.out]; exact HO1.out, HB1.out⟩
        case measure => simp [intOf]; omega
      have tb := bit_on (p := p) (j := j) hp hbit
      by_cases hr : at_ + j < 8 * n
      case neg =>
        have td : decide ((at_ : Int) + (j : Int) < 8 * (n : Int)) = false := by simp; omega
        have HA : Hid (spoilK l at_ p (j + 1) = spoilK l at_ p j) := Lib.hid (by simp only [spoilK]; rw [if_neg (fun h => hr (by rw [← HLEN.out]; exact h.2))])
        have HO1 := Lib.hid ho
        have HB1 := Lib.hid hb
        clear ho hb hbit hr
        go_wp2_with fail
        go_roundw
        case rel => exact ⟨j + 1, by omega, by go_num, by rw [HA.out]; exact HO1.out, HB1.out⟩
        case measure => simp [intOf]; omega
      have td : decide ((at_ : Int) + (j : Int) < 8 * (n : Int)) = true := by simp; omega
      have HA : Hid (spoilK l at_ p (j + 1) = flipAt (spoilK l at_ p j) (at_ + j)) := Lib.hid (by simp only [spoilK]; rw [if_pos ⟨hbit, by rw [HLEN.out]; exact hr⟩])
      have hsl : (spoilK l at_ p j).length = n := (spoilK_length _ _ _ _).trans HLEN.out
      generalize spoilK l at_ p j = m at *
      obtain ⟨i8, h8⟩ : ∃ i8 : Nat, i8 = (at_ + j) / 8 := ⟨_, rfl⟩
      have e8 : ((at_ : Int) + (j : Int)) / 8 = (i8 : Int) := by omega
      obtain ⟨x, hx⟩ : ∃ x, m[i8]? = some x := ⟨_, List.getElem?_eq_getElem (by omega)⟩
      obtain ⟨hcell, hfz⟩ := own_cell ho hx
      have hb1 : (0 : Int) ≤ ((at_ : Int) + (j : Int)) / 8 := by omega
      have hb2 : ((at_ : Int) + (j : Int)) / 8 < (n : Int) := by omega
      rw [h8] at hcell hfz
      have HX := Lib.hid hx
      have H8 := Lib.hid (And.intro h8 hsl)
      have HO1 := Lib.hid ho
      have HB1 := Lib.hid hb
      clear ho hb hbit hr hx h8 e8 hsl
      go_wp2_with fail
      go_region
      rw [flip_bit x (at_ + j)]
      have HO2 := Lib.hid (own_set HO1.out (i := (at_ + j) / 8) (x ^^^ UInt8.ofNat (2 ^ ((at_ + j) % 8))))
      have HF : Hid (flipAt m (at_ + j) = m.set ((at_ + j) / 8) (x ^^^ UInt8.ofNat (2 ^ ((at_ + j) % 8)))) := Lib.hid (flip_set (by rw [← H8.out.1]; exact HX.out))
      have HB2 := Lib.hid ((HB1.out.setCell (p := ⟨g, (at_ + j) / 8, none⟩) hg1 (b8 (x ^^^ UInt8.ofNat (2 ^ ((at_ + j) % 8))))).drew)
      clear hcell hfz hb1 hb2
      go_wp2_with fail
      go_roundw
      case rel => exact ⟨j + 1, by omega, by go_num, by rw [HA.out, HF.out]; exact HO2.out, HB2.out⟩
      case measure => simp [intOf]; omega
    · obtain rfl : j = 32 := by omega
      have HI := Lib.hid (spoil_iff (l := l) (at_ := at_) (p := p) (by rw [HLEN.out]; omega))
      generalize spoilK l at_ p 32 = m at *
      obtain ⟨ma, mc, hmv, sm⟩ := Sl.of_own (f := b8) ho
      injection hmv with e1 e2 e3
      subst e1 e3
      have sl := HL.out.below hb (Nat.le_refl _)
      obtain ⟨z, hz⟩ : ∃ z, decide (l = m) = z := ⟨_, rfl⟩
      have z1 : (((bytesN l : Nat) : Int) == ((bytesN m : Nat) : Int)) = z := by
        rw [← hz, Bool.eq_iff_iff]
        have := HI.out
        simp only [beq_iff_eq, decide_eq_true_eq, Int.ofNat_inj]
        exact this
      have z2 : ((str l).toList == (str m).toList) = z := by
        rw [← hz, Bool.eq_iff_iff]
        simp [str]
      have z4 : (((bytesN l : Nat) : Int) != ((bytesN m : Nat) : Int)) = !z := by rw [← z1]; rfl
      have z5 : ((str l).toList != (str m).toList) = !z := by rw [← z2]; rfl
      have HB1 := Lib.hid hb
      have HZ := Lib.hid hb.size
      have C1 : ∀ W, Below wr.heap.size wr W → Calls Try.prog 11 #[.slice a n c] W fun e W' => e = .returned (.int .u32 (bytesN l : Nat)) ∧ Below wr.heap.size wr W' := fun W hW => (Bytes_any a n c l _ W (sl.below hW hb.size)).mono fun e W' ⟨he, hw⟩ => ⟨he, hw ▸ hW⟩
      have C2 : ∀ W, Below wr.heap.size wr W → Calls Try.prog 11 #[.slice (some ⟨g, 0, none⟩) n cap] W fun e W' => e = .returned (.int .u32 (bytesN m : Nat)) ∧ Below wr.heap.size wr W' := fun W hW => (Bytes_any (some ⟨g, 0, none⟩) n cap m _ W (sm.below hW (Nat.le_refl _))).mono fun e W' ⟨he, hw⟩ => ⟨he, hw ▸ hW⟩
      have D0 : ∀ W, Below wr.heap.size wr W → Calls Try.prog 8 #[] W fun e W' => e = .returned (.bool true) ∧ Below wr.heap.size wr W' := fun W hW => (awake_any W).mono fun e W' ⟨he, hb2⟩ => ⟨he, hW.trans (hb2.mono hW.size)⟩
      have Q1 : ∀ W, Below wr.heap.size wr W → (convert 23 9 (.slice a n c)).run Try.prog W = .ok (.string (str l)) W := fun W hW => (sl.below hW hb.size).text (P := Try.prog) Try.underlying23 Try.underlying5 Try.underlying9
      have Q2 : ∀ W, Below wr.heap.size wr W → (convert 23 9 (.slice (some ⟨g, 0, none⟩) n cap)).run Try.prog W = .ok (.string (str m)) W := fun W hW => (sm.below hW (Nat.le_refl _)).text (P := Try.prog) Try.underlying23 Try.underlying5 Try.underlying9
      clear sl sm HI
      have ht : decide ((32 : Int) < 32) = false := by simp
      generalize bytesN l = S1 at *
      generalize bytesN m = S2 at *
      generalize str l = T1 at *
      generalize str m = T2 at *
      go_wp2_with fail
      refine region_quiet (fun W => Below wr.heap.size wr W) (by kernel_rfl) (by kernel_rfl) (Below.refl _ _).drew ?_
      intro ops Q' hops hQ
      refine QP.val (.slice a n c) (by rfl) (fun wC hC => runq_move rfl (by kernel_rfl)) ?_
      refine QP.call 11 #[.slice a n c] (.int .u32 (S1 : Int)) (by rfl) (fun wC hC => (congrArg (fun s => Sem.run Try.prog s wC) (by kernel_rfl)).trans (enters_bytes #[.slice a n c] wC)) (fun wC hC => C1 wC hC) ?_
      refine QP.val (.slice (some ⟨g, 0, none⟩) n cap) (by rfl) (fun wC hC => runq_move rfl (by kernel_rfl)) ?_
      refine QP.call 11 #[.slice (some ⟨g, 0, none⟩) n cap] (.int .u32 (S2 : Int)) (by rfl) (fun wC hC => (congrArg (fun s => Sem.run Try.prog s wC) (by kernel_rfl)).trans (enters_bytes #[.slice (some ⟨g, 0, none⟩) n cap] wC)) (fun wC hC => C2 wC hC) ?_
      refine QP.val (.bool (!z)) (by rfl) (fun wC hC => runq_neq (k := .u32) (p := (S1 : Int)) (q := (S2 : Int)) rfl (by kernel_rfl) (by kernel_rfl) z4) ?_
      refine QP.val (.slice a n c) (by rfl) (fun wC hC => runq_move rfl (by kernel_rfl)) ?_
      refine QP.val (.string T1) (by rfl) (fun wC hC => runq_conv rfl (by kernel_rfl) (Q1 wC hC)) ?_
      refine QP.val (.slice (some ⟨g, 0, none⟩) n cap) (by rfl) (fun wC hC => runq_move rfl (by kernel_rfl)) ?_
      refine QP.val (.string T2) (by rfl) (fun wC hC => runq_conv rfl (by kernel_rfl) (Q2 wC hC)) ?_
      refine QP.val (.bool (!z)) (by rfl) (fun wC hC => runq_neqs rfl (by kernel_rfl) (by kernel_rfl) z2) ?_
      refine QP.val (.bool true) (by rfl) (fun wC hC => runq_eqlb (p := !z) (q := !z) Try.underlying4 rfl (by kernel_rfl) (by kernel_rfl) (by simp)) ?_
      refine QP.val (.bool true) (by rfl) (fun wC hC => runq_move rfl (by kernel_rfl)) ?_
      refine QP.call 8 #[] (.bool true) (wantedq (j := 11) (d := 69) (want := true) (b := true) rfl (by rw [hops.out]; rfl) (by kernel_rfl) rfl) (fun wC hC => (congrArg (fun s => Sem.run Try.prog s wC) (by kernel_rfl)).trans (enters_awake #[] wC)) (fun wC hC => D0 wC hC) ?_
      refine QP.val (.bool true) (by rfl) (fun wC hC => runq_pick (c := true) rfl (by kernel_rfl) (by kernel_rfl)) ?_
      refine QP.val (.bool true) (by rfl) (fun wC hC => runq_assign rfl (by kernel_rfl)) ?_
      refine QP.nil (hQ.out _ fun w8 hC => ?_)
      simp only [Act.put, List.setIfInBounds_toArray, List.set_cons_succ, List.set_cons_zero]
      have HC8 := Lib.hid hC
      clear hops hQ C1 C2 D0 Q1 Q2 hC
      go_wp2_with fail
      go_ret
      exact Says.mk (HB1.out.trans (HC8.out.mono HZ.out))
end Go.Proofs.Ytbiecnopgaghbaa.SumW
