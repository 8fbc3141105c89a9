/- The document's own answer on bits. -/
import Derived.Test.YtmcclopkmoomeaaWdBits
import Derived.Test.YtmcclopkmoomeaaWdRefM
import Derived.Test.YtmcclopkmoomeaaStep
open Go.RowKit
namespace Go.Proofs.Ytmcclopkmoomeaa.WdW
open AskM WdM Mem

theorem odd_eq (q : Nat) : (((q : Int) % 2) == 1) = decide (q % 2 = 1) := by rw [Bool.eq_iff_iff]; simp; omega
set_option maxRecDepth 100000 in
theorem bit_any (a : Option Addr) (m c : Nat) (l : List UInt8) (k B : Nat) (w : World) (hS : Sl b8 w B a m c l) (hm : m ≤ 100000) (hk : k < 8 * m) :
    Calls Try.prog 26 #[.slice a m c, .int .i64 (k : Int)] w (Tells (.bool ((unpackN l).getD k false)) w) := by
  obtain ⟨b, off, x, rfl, hbk, hx, hcell⟩ := hS.at_ (k := k / 8) (by omega)
  have HV := Lib.hid (unpack_at hx)
  rw [HV.out]
  have i1 : (0 : Int) ≤ (k : Int) := by omega
  have i2 : (k : Int) / 8 < (m : Int) := by omega
  have hx8 := x.toNat_lt
  clear hS hx HV
  go_enter Try.func26, Try.ntmps26
  go_wp2_with fail
  clear hcell
  go_loop [5, 6] (fun xx i => ∃ j : Nat, j ≤ k % 8 ∧ i = .int .i64 (j : Int) ∧ xx = .int .u8 ((x.toNat / 2 ^ j : Nat) : Int)) (fun _ i => 8 - (intOf i).toNat)
  case atStart => exact ⟨0, by omega, rfl, by simp⟩
  case round =>
    obtain ⟨j, hj, rfl, rfl⟩ := hrel
    have hq : x.toNat / 2 ^ j < 256 := Nat.lt_of_le_of_lt (Nat.div_le_self _ _) hx8
    have HQ : Hid (x.toNat / 2 ^ (j + 1) = x.toNat / 2 ^ j / 2) := Lib.hid (by rw [Nat.pow_succ, Nat.div_div_eq_div_mul])
    by_cases hlt : j < k % 8
    · have tj : decide ((j : Int) < (k : Int) % 8) = true := by simp; omega
      generalize x.toNat / 2 ^ j = q at *
      go_wp2_with fail
      go_round
      case rel => exact ⟨j + 1, by omega, by go_num, by rw [HQ.out]; congr 1⟩
      case measure => simp [intOf] <;> omega
    · obtain rfl : j = k % 8 := by omega
      have tj : decide ((((k % 8 : Nat) : Int)) < (k : Int) % 8) = false := by simp
      have HB : Hid (bitOf x.toNat (k % 8) = decide (x.toNat / 2 ^ (k % 8) % 2 = 1)) := Lib.hid rfl
      generalize x.toNat / 2 ^ (k % 8) = q at *
      have HO := Lib.hid (odd_eq q)
      go_wp2_with fail
      go_ret
      exact Tells.mk (by show Value.bool _ = _; rw [HB.out, ← HO.out])
set_option maxRecDepth 100000 in
set_option maxHeartbeats 2000000 in
theorem rPackBits_any (a : Option Addr) (n c : Nat) (l : List Bool) (w : World) (hS : Sl Value.bool w w.heap.size a n c l) (hn : n ≤ 100000) :
    Calls Try.prog 15 #[.slice a n c] w (Fresh b8 (packN l) w) := by
  have hlen := hS.len
  obtain ⟨i0, hi0, hz0, hz1, hz2⟩ := info_parts info8
  have hz2' : i0.bytes = 1 := hz2
  have HX := Lib.hid (And.intro hi0 (And.intro hz0 (And.intro hz1 hz2')))
  have HS := Lib.hid hS
  have HL := Lib.hid hlen
  clear hS hi0 hz0 hz1 hz2 hz2' hlen
  go_enter Try.func15, Try.ntmps15
  go_wp2_with fail
  go_loopw [3, 4] (fun v i wr => ∃ k : Nat, k ≤ n ∧ i = .int .i64 (k : Int) ∧ wr.ownsRow w.heap.size 5 1 v ((k + 7) / 8) ((packN (l.take k)).map b8) ∧ Below w.heap.size w wr) (fun _ i _ => n - (intOf i).toNat)
  case atStart => exact ⟨0, by omega, rfl, by rw [show packN (l.take 0) = [] by simp [packN]]; exact World.ownsRow_nil _ _ _ _, Below.refl _ _⟩
  case round =>
    obtain ⟨k, hk, rfl, ho, hb⟩ := hrel
    have HO := Lib.hid ho
    have HB := Lib.hid hb
    clear ho hb
    by_cases hlt : k < n
    case neg =>
      obtain rfl : k = n := by omega
      have tb : decide ((k : Int) < (k : Int)) = false := by simp
      go_wp2_with fail
      go_ret
      have h := HO.out
      rw [List.take_of_length_le (by rw [HL.out]; exact Nat.le_refl _)] at h
      exact Fresh.of_own h (Nat.le_refl _) HB.out
    have tb : decide ((k : Int) < (n : Int)) = true := by simp; omega
    have i1 : (0 : Int) ≤ (k : Int) := by omega
    have i2 : (k : Int) < (n : Int) := by omega
    obtain ⟨b, off, x, rfl, hbk, hx, hcell⟩ := HS.out.at_ hlt
    have HC0 := Lib.hid hcell
    have HK : Hid (k ≤ l.length) := Lib.hid (by rw [HL.out]; exact hk)
    clear hcell
    by_cases h8 : k % 8 = 0
    case pos =>
      have t8 : ((k : Int) % 8 == 0) = true := by rw [beq_iff_eq]; omega
      have HM := Lib.hid (mid_none (l := l) h8)
      have hk8 : (k + 7) / 8 = k / 8 := by omega
      rw [hk8] at HO
      clear hk8
      cases x
      · have HN := Lib.hid (mid_off hx)
        clear hx
        go_wp2_with (at_builtin; refine wpList_append_vals rfl (.tmp 16) (.tmp 17) 22 rfl w.heap.size 5 i0 (.int .u8 0) 1 Try.underlying22 HX.out.1 HX.out.2.1 HX.out.2.2.1 HX.out.2.2.2 rfl u3 (k / 8) _ rfl (HO.out.alloc _) ⟨wr.heap.size, 0, none⟩ 1 1 (([0] : List UInt8).map b8) rfl rfl (new_cells wr (([0] : List UInt8).map b8).toArray _) (fun u hu => by obtain ⟨y, _, rfl⟩ := List.mem_map.1 hu; rfl) (by unfold maxLen; omega) (by omega) (by have := HB.out.size; simp; omega) ?_; intro v1 w1 hown1 hg1; rw [← List.map_append, ← HM.out] at hown1; obtain ⟨g, cap, rfl⟩ := own_some hown1 (by omega); have HO1 := Lib.hid hown1; have HB1 := Lib.hid (Grew.below (HB.out.alloc HB.out.size _) hg1 (by have := HB.out.size; simp; omega) (fun z hz => (HO.out.lt z hz).1)); have hc1 : w1.cell? ⟨b, off + k, none⟩ = _ := (HB1.out.cell (p := ⟨b, off + k, none⟩) hbk).trans HC0.out; clear hown1 hg1)
        go_roundw
        case rel =>
          refine ⟨k + 1, by omega, by go_num, ?_, HB1.out⟩
          have h := HO1.out
          rw [HN.out] at h
          rw [show (k + 1 + 7) / 8 = k / 8 + 1 by omega]
          exact h
        case measure => simp [intOf] <;> omega
      · have HN := Lib.hid (mid_on hx)
        clear hx
        go_wp2_with (at_builtin; refine wpList_append_vals rfl (.tmp 16) (.tmp 17) 22 rfl w.heap.size 5 i0 (.int .u8 0) 1 Try.underlying22 HX.out.1 HX.out.2.1 HX.out.2.2.1 HX.out.2.2.2 rfl u3 (k / 8) _ rfl (HO.out.alloc _) ⟨wr.heap.size, 0, none⟩ 1 1 (([0] : List UInt8).map b8) rfl rfl (new_cells wr (([0] : List UInt8).map b8).toArray _) (fun u hu => by obtain ⟨y, _, rfl⟩ := List.mem_map.1 hu; rfl) (by unfold maxLen; omega) (by omega) (by have := HB.out.size; simp; omega) ?_; intro v1 w1 hown1 hg1; rw [← List.map_append, ← HM.out] at hown1; obtain ⟨g, cap, rfl⟩ := own_some hown1 (by omega); have HO1 := Lib.hid hown1; have HB1 := Lib.hid (Grew.below (HB.out.alloc HB.out.size _) hg1 (by have := HB.out.size; simp; omega) (fun z hz => (HO.out.lt z hz).1)); have hc1 : w1.cell? ⟨b, off + k, none⟩ = _ := (HB1.out.cell (p := ⟨b, off + k, none⟩) hbk).trans HC0.out; clear hown1 hg1)
        clear hc1
        obtain ⟨wq, rfl⟩ : ∃ wq : World, wq = w1 := ⟨_, rfl⟩
        go_loop [5, 6] (fun x i => ∃ j : Nat, j ≤ k % 8 ∧ i = .int .i64 (j : Int) ∧ x = .int .u8 ((2 ^ j : Nat) : Int)) (fun _ i => 8 - (intOf i).toNat)
        case atStart => exact ⟨0, by omega, rfl, rfl⟩
        case round =>
          obtain ⟨j, hj, rfl, rfl⟩ := hrel
          by_cases hj8 : j < k % 8
          · have tj : decide ((j : Int) < (k : Int) % 8) = true := by simp; omega
            have hp : 2 ^ j ≤ 64 := Nat.pow_le_pow_right (n := 2) (by omega) (show j ≤ 6 by omega)
            have HP : Hid (2 ^ (j + 1) = 2 ^ j * 2) := Lib.hid (Nat.pow_succ ..)
            generalize 2 ^ j = q at *
            go_wp2_with fail
            go_round
            case rel => exact ⟨j + 1, by omega, by go_num, by rw [HP.out]; congr 1⟩
            case measure => simp [intOf] <;> omega
          · obtain rfl : j = k % 8 := by omega
            have tj : decide ((((k % 8 : Nat) : Int)) < (k : Int) % 8) = false := by simp
            have k1 : (0 : Int) ≤ ((k / 8 + 1 : Nat) : Int) - 1 := by omega
            have k2 : ((k / 8 + 1 : Nat) : Int) - 1 < ((k / 8 + 1 : Nat) : Int) := by omega
            have hxm := mid_at (l := l) (k := k) (j := k / 8) HK.out (by omega)
            obtain ⟨hcell2, hfz⟩ := own_cell HO1.out hxm
            have hlt8 := on_lt l (k := k)
            have HSET := own_set HO1.out (i := k / 8) (UInt8.ofNat (byteAt (l.take k) (k / 8) + 2 ^ (k % 8)))
            rw [HN.out, show b8 (UInt8.ofNat (byteAt (l.take k) (k / 8) + 2 ^ (k % 8))) = .int .u8 ((byteAt (l.take k) (k / 8) + 2 ^ (k % 8) : Nat) : Int) by rw [b8, ofNat_toNat8 hlt8]] at HSET
            have HSET := Lib.hid HSET
            rw [show b8 (UInt8.ofNat (byteAt (l.take k) (k / 8))) = .int .u8 ((byteAt (l.take k) (k / 8) : Nat) : Int) by rw [b8, ofNat_toNat8 (byteAt_lt _ _)]] at hcell2
            have HG := Lib.hid (HO1.out.lt g rfl).1
            have hb8 := byteAt_lt (l.take k) (k / 8)
            clear hxm HN
            generalize byteAt (l.take k) (k / 8) = B at *
            generalize 2 ^ (k % 8) = q at *
            go_wp2_with fail
            go_roundw
            case rel =>
              refine ⟨k + 1, by omega, by go_num, ?_, HB1.out.setCell (p := ⟨g, k / 8, none⟩) HG.out _⟩
              have h := HSET.out
              rw [show (k + 1 + 7) / 8 = k / 8 + 1 by omega]
              exact h
            case measure => simp [intOf] <;> omega
    case neg =>
      have t8 : ((k : Int) % 8 == 0) = false := by rw [beq_eq_false_iff_ne]; omega
      have HM := Lib.hid (mid_some (l := l) h8)
      have HO1 := HO.out
      have HB1 := HB
      rw [← HM.out, show (k + 7) / 8 = k / 8 + 1 by omega] at HO1
      obtain ⟨g, cap, rfl⟩ := own_some HO1 (by omega)
      have HO1 := Lib.hid HO1
      have hc1 : wr.cell? ⟨b, off + k, none⟩ = _ := (HB1.out.cell (p := ⟨b, off + k, none⟩) hbk).trans HC0.out
      cases x
      · have HN := Lib.hid (mid_off hx)
        clear hx
        go_wp2_with fail
        go_roundw
        case rel =>
          refine ⟨k + 1, by omega, by go_num, ?_, HB1.out⟩
          have h := HO1.out
          rw [HN.out] at h
          rw [show (k + 1 + 7) / 8 = k / 8 + 1 by omega]
          exact h
        case measure => simp [intOf] <;> omega
      · have HN := Lib.hid (mid_on hx)
        clear hx
        go_wp2_with fail
        clear hc1
        obtain ⟨wq, rfl⟩ : ∃ wq : World, wq = wr := ⟨_, rfl⟩
        go_loop [5, 6] (fun x i => ∃ j : Nat, j ≤ k % 8 ∧ i = .int .i64 (j : Int) ∧ x = .int .u8 ((2 ^ j : Nat) : Int)) (fun _ i => 8 - (intOf i).toNat)
        case atStart => exact ⟨0, by omega, rfl, rfl⟩
        case round =>
          obtain ⟨j, hj, rfl, rfl⟩ := hrel
          by_cases hj8 : j < k % 8
          · have tj : decide ((j : Int) < (k : Int) % 8) = true := by simp; omega
            have hp : 2 ^ j ≤ 64 := Nat.pow_le_pow_right (n := 2) (by omega) (show j ≤ 6 by omega)
            have HP : Hid (2 ^ (j + 1) = 2 ^ j * 2) := Lib.hid (Nat.pow_succ ..)
            generalize 2 ^ j = q at *
            go_wp2_with fail
            go_round
            case rel => exact ⟨j + 1, by omega, by go_num, by rw [HP.out]; congr 1⟩
            case measure => simp [intOf] <;> omega
          · obtain rfl : j = k % 8 := by omega
            have tj : decide ((((k % 8 : Nat) : Int)) < (k : Int) % 8) = false := by simp
            have k1 : (0 : Int) ≤ ((k / 8 + 1 : Nat) : Int) - 1 := by omega
            have k2 : ((k / 8 + 1 : Nat) : Int) - 1 < ((k / 8 + 1 : Nat) : Int) := by omega
            have hxm := mid_at (l := l) (k := k) (j := k / 8) HK.out (by omega)
            obtain ⟨hcell2, hfz⟩ := own_cell HO1.out hxm
            have hlt8 := on_lt l (k := k)
            have HSET := own_set HO1.out (i := k / 8) (UInt8.ofNat (byteAt (l.take k) (k / 8) + 2 ^ (k % 8)))
            rw [HN.out, show b8 (UInt8.ofNat (byteAt (l.take k) (k / 8) + 2 ^ (k % 8))) = .int .u8 ((byteAt (l.take k) (k / 8) + 2 ^ (k % 8) : Nat) : Int) by rw [b8, ofNat_toNat8 hlt8]] at HSET
            have HSET := Lib.hid HSET
            rw [show b8 (UInt8.ofNat (byteAt (l.take k) (k / 8))) = .int .u8 ((byteAt (l.take k) (k / 8) : Nat) : Int) by rw [b8, ofNat_toNat8 (byteAt_lt _ _)]] at hcell2
            have HG := Lib.hid (HO1.out.lt g rfl).1
            have hb8 := byteAt_lt (l.take k) (k / 8)
            clear hxm HN
            generalize byteAt (l.take k) (k / 8) = B at *
            generalize 2 ^ (k % 8) = q at *
            go_wp2_with fail
            go_roundw
            case rel =>
              refine ⟨k + 1, by omega, by go_num, ?_, HB1.out.setCell (p := ⟨g, k / 8, none⟩) HG.out _⟩
              have h := HSET.out
              rw [show (k + 1 + 7) / 8 = k / 8 + 1 by omega]
              exact h
            case measure => simp [intOf] <;> omega
end Go.Proofs.Ytmcclopkmoomeaa.WdW
