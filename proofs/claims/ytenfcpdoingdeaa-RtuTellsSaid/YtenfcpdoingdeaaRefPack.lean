/- The document's own answer on requests: bits packed, and unpacked. -/
import Derived.Test.YtenfcpdoingdeaaRefA
import Derived.Test.YtenfcpdoingdeaaAskUnpack
open Go.RowKit
namespace Go.Proofs.Ytenfcpdoingdeaa.RefW
open AskM AskW Mem

/-- The first m of eight bits, from the last one on, as a number. -/
def revN (f : Nat → Bool) : Nat → Nat
  | 0 => 0
  | m + 1 => 2 * revN f m + (f (7 - m)).toNat
theorem revN_lt (f : Nat → Bool) (m : Nat) : revN f m < 2 ^ m := by
  induction m with
  | zero => show 0 < 1; omega
  | succ m ih =>
    show 2 * revN f m + (f (7 - m)).toNat < 2 ^ (m + 1)
    have : (f (7 - m)).toNat ≤ 1 := by cases f (7 - m) <;> decide
    rw [Nat.pow_succ]; omega
theorem revN_eight (f : Nat → Bool) : revN f 8 = eightOf f := by
  simp [revN, eightOf]
  omega
theorem pack_take {l : List Bool} {j : Nat} (h : 8 * j < l.length) : (packN l).take (j + 1) = (packN l).take j ++ [UInt8.ofNat (byteAt l j)] := by
  have hx : (packN l)[j]? = some (UInt8.ofNat (byteAt l j)) := by
    unfold packN
    rw [List.getElem?_map, List.getElem?_range (by omega)]
    rfl
  rw [List.take_add_one, hx]; rfl
theorem byte_val (l : List Bool) (j : Nat) : Value.int .u8 (revN (fun k => l.getD (8 * j + k) false) 8 : Int) = b8 (UInt8.ofNat (byteAt l j)) := by
  rw [revN_eight]
  unfold b8
  have := byteAt_lt l j
  congr 1
  show ((byteAt l j : Nat) : Int) = _
  simp
  omega

set_option maxRecDepth 100000 in
set_option maxHeartbeats 2000000 in
theorem rPack_any (a : Option Addr) (n c : Nat) (l : List Bool) (w : World) (hS : Sl Value.bool w w.heap.size a n c l) (hn : n ≤ 1000000) :
    Calls Try.prog 20 #[.slice a n c] w (Fresh b8 (packN l) w) := by
  have hlen := hS.len
  obtain ⟨i0, hi0, hz0, hz1, hz2⟩ := info_parts info8
  have hz2' : i0.bytes = 1 := hz2
  have HX := Lib.hid (And.intro hi0 (And.intro hz0 (And.intro hz1 hz2')))
  have HS := Lib.hid hS
  clear hS hi0 hz0 hz1 hz2 hz2'
  go_enter Try.func20, Try.ntmps20
  go_wp2_with fail
  go_loopw [3, 4, 5, 6] (fun v i _ _ wr => ∃ j : Nat, 8 * j ≤ n + 7 ∧ i = .int .i64 (8 * (j : Int)) ∧ wr.ownsRow w.heap.size 5 1 v j (((packN l).take j).map b8) ∧ Below w.heap.size w wr) (fun _ i _ _ _ => n + 8 - (intOf i).toNat)
  case atStart => exact ⟨0, by omega, rfl, World.ownsRow_nil _ _ _ _, Below.refl _ _⟩
  case round =>
    obtain ⟨j, hj, rfl, ho, hb⟩ := hrel
    have HO := Lib.hid ho
    have HB := Lib.hid hb
    clear ho hb
    by_cases hlt : 8 * j < n
    · have tb : decide (8 * (j : Int) < (n : Int)) = true := by simp; omega
      have HSW := Lib.hid (HS.out.below HB.out (Nat.le_refl _))
      go_wp2_with fail
      obtain ⟨wo, rfl⟩ : ∃ wo : World, wo = wr := ⟨_, rfl⟩
      go_loop [5, 6] (fun cc k => ∃ m : Nat, m ≤ 8 ∧ ((m = 8 ∧ k = .int .i64 (-1)) ∨ (m < 8 ∧ k = .int .i64 ((7 - m : Nat) : Int))) ∧ cc = .int .i64 (revN (fun k => l.getD (8 * j + k) false) m : Int)) (fun _ k => (intOf k + 1).toNat)
      case atStart => exact ⟨0, by omega, .inr ⟨by omega, rfl⟩, rfl⟩
      case round =>
        obtain ⟨m, hm, hk, rfl⟩ := hrel
        rcases hk with ⟨rfl, rfl⟩ | ⟨hm8, rfl⟩
        · have HV := Lib.hid (byte_val l j)
          have hr8 := revN_lt (fun k => l.getD (8 * j + k) false) 8
          have HT := Lib.hid (pack_take (l := l) (j := j) (by omega))
          generalize revN (fun k => l.getD (8 * j + k) false) 8 = R at *
          go_wp2_with (refine wpList_append_vals rfl (.tmp 35) (.tmp 38) 27 rfl w.heap.size 5 i0 (.int .u8 0) 1 Try.underlying27 HX.out.1 HX.out.2.1 HX.out.2.2.1 HX.out.2.2.2 rfl u3 j _ rfl (HO.out.alloc _) ⟨wo.heap.size, 0, none⟩ 1 1 [.int .u8 (R : Int)] rfl rfl (new_cells wo #[.int .u8 (R : Int)] _) (by intro u hu; simp at hu; subst hu; rfl) (by unfold maxLen; omega) (by omega) (by have := HB.out.size; simp; omega) ?_; intro v1 w1 hown1 hgrow1; have HO1 := Lib.hid hown1; have HG1 := Lib.hid hgrow1; clear hown1 hgrow1)
          have HB1 := Lib.hid (Grew.below (HB.out.alloc HB.out.size (.cells #[.int .u8 (R : Int)] 5)) HG1.out (by have := HB.out.size; simp; omega) (fun k hk => (HO.out.lt k hk).1))
          go_roundw
          case rel =>
            refine ⟨j + 1, by omega, by go_num, ?_, HB1.out⟩
            have h := HO1.out
            rw [HV.out] at h
            rw [HT.out, List.map_append]
            exact h
          case measure => simp [intOf] <;> omega
        · have tm : decide ((0 : Int) ≤ ((7 - m : Nat) : Int)) = true := by simp
          have hrs : revN (fun k => l.getD (8 * j + k) false) (m + 1) = 2 * revN (fun k => l.getD (8 * j + k) false) m + (l.getD (8 * j + (7 - m)) false).toNat := rfl
          have hr := revN_lt (fun k => l.getD (8 * j + k) false) m
          have hp : 2 ^ m ≤ 2 ^ 7 := Nat.pow_le_pow_right (by omega) (by omega)
          have HK : Hid ((m + 1 = 8 ∧ Value.int .i64 (((7 - m : Nat) : Int) - 1) = .int .i64 (-1)) ∨ (m + 1 < 8 ∧ Value.int .i64 (((7 - m : Nat) : Int) - 1) = .int .i64 ((7 - (m + 1) : Nat) : Int))) := Lib.hid (by
            by_cases h8 : m + 1 = 8
            · exact .inl ⟨h8, by congr 1; omega⟩
            · exact .inr ⟨by omega, by congr 1; omega⟩)
          have hk8 : 7 - m < 8 := by omega
          have HRS := Lib.hid hrs
          clear hrs
          have hR : revN (fun k => l.getD (8 * j + k) false) m ≤ 128 := by omega
          clear hr hp
          generalize 7 - m = kk at *
          by_cases hin : 8 * j + kk < n
          case neg =>
            have td : decide (8 * (j : Int) + (kk : Int) < (n : Int)) = false := by simp; omega
            have hg0 : l.getD (8 * j + kk) false = false := by simp [List.getD, List.getElem?_eq_none (show l.length ≤ 8 * j + kk by omega)]
            rw [hg0] at HRS
            generalize revN (fun k => l.getD (8 * j + k) false) m = R at *
            clear hin hg0
            go_wp2_with fail
            go_round
            case rel => exact ⟨m + 1, by omega, HK.out, by rw [HRS.out]; congr 1; simp; omega⟩
            case measure => simp [intOf] <;> omega
          have td : decide (8 * (j : Int) + (kk : Int) < (n : Int)) = true := by simp; omega
          obtain ⟨b, off, x, rfl, hb, hx, hcell⟩ := HSW.out.at_ (k := 8 * j + kk) hin
          have hg0 : l.getD (8 * j + kk) false = x := by simp [List.getD, hx]
          have i1 : (0 : Int) ≤ 8 * (j : Int) + (kk : Int) := by omega
          have i2 : 8 * (j : Int) + (kk : Int) < (n : Int) := by omega
          rw [hg0] at HRS
          generalize revN (fun k => l.getD (8 * j + k) false) m = R at *
          clear hin hg0 hx
          cases x
          · go_wp2_with fail
            go_round
            case rel => exact ⟨m + 1, by omega, HK.out, by rw [HRS.out]; congr 1; simp; omega⟩
            case measure => simp [intOf] <;> omega
          · go_wp2_with fail
            go_round
            case rel => exact ⟨m + 1, by omega, HK.out, by rw [HRS.out]; congr 1; simp; omega⟩
            case measure => simp [intOf] <;> omega
    · have tb : decide (8 * (j : Int) < (n : Int)) = false := by simp; omega
      have hj8 : (packN l).length ≤ j := by rw [length_packN]; omega
      have HT : Hid ((packN l).take j = packN l) := Lib.hid (List.take_of_length_le hj8)
      go_wp2_with fail
      go_ret
      have h := HO.out
      rw [HT.out] at h
      exact Fresh.of_own h (Nat.le_refl _) HB.out
theorem odd_val (q : Nat) : (((q : Int) % 2) == 1) = decide (q % 2 = 1) := by rw [Bool.eq_iff_iff]; simp; omega
/-- A byte's number, some bits shifted out: the next bit. -/
theorem bits_next {c : UInt8} {m : Nat} (hm : m < 8) : (bitsOf c).take (m + 1) = (bitsOf c).take m ++ [bitOf c.toNat m] := by
  have hx : (bitsOf c)[m]? = some (bitOf c.toNat m) := by
    unfold bitsOf
    rw [List.getElem?_map, List.getElem?_range hm]
    rfl
  rw [List.take_add_one, hx]; rfl
theorem bits_all (c : UInt8) : (bitsOf c).take 8 = bitsOf c := List.take_of_length_le (by simp [bitsOf])
set_option maxRecDepth 100000 in
set_option maxHeartbeats 2000000 in
theorem rUnpack_any (a : Option Addr) (n c : Nat) (l : List UInt8) (w : World) (hS : Sl b8 w w.heap.size a n c l) (hn : n ≤ 1000000) :
    Calls Try.prog 23 #[.slice a n c] w (Fresh Value.bool (unpackN l) w) := by
  have hlen := hS.len
  obtain ⟨i0, hi0, hz0, hz1, hz2⟩ := info_parts infoB
  have hz2' : i0.bytes = 1 := hz2
  have HX := Lib.hid (And.intro hi0 (And.intro hz0 (And.intro hz1 hz2')))
  have HS := Lib.hid hS
  clear hS hi0 hz0 hz1 hz2 hz2'
  go_enter Try.func23, Try.ntmps23
  go_wp2_with fail
  go_loopw [3, 4, 5, 6] (fun v i _ _ wr => ∃ j : Nat, j ≤ n ∧ i = .int .i64 (j : Int) ∧ wr.ownsRow w.heap.size 4 1 v (8 * j) ((unpackN (l.take j)).map Value.bool) ∧ Below w.heap.size w wr) (fun _ i _ _ _ => n - (intOf i).toNat)
  case atStart => exact ⟨0, by omega, rfl, World.ownsRow_nil _ _ _ _, Below.refl _ _⟩
  case round =>
    obtain ⟨j, hj, rfl, ho, hb⟩ := hrel
    have HO := Lib.hid ho
    have HB := Lib.hid hb
    clear ho hb
    by_cases hlt : j < n
    · have tb : decide ((j : Int) < (n : Int)) = true := by simp; omega
      obtain ⟨b, off, x, rfl, hbk, hx, hcell⟩ := (HS.out.below HB.out (Nat.le_refl _)).at_ (k := j) hlt
      have HT := Lib.hid (bits_take hx)
      have hx8 := x.toNat_lt
      clear hx
      go_wp2_with fail
      clear hcell
      go_loopw [3, 5, 6] (fun v xx k wr => ∃ m : Nat, m ≤ 8 ∧ k = .int .i64 (m : Int) ∧ xx = .int .i64 ((x.toNat / 2 ^ m : Nat) : Int) ∧ wr.ownsRow w.heap.size 4 1 v (8 * j + m) ((unpackN (l.take j) ++ (bitsOf x).take m).map Value.bool) ∧ Below w.heap.size w wr) (fun _ _ k _ => 8 - (intOf k).toNat)
      case atStart => exact ⟨0, by omega, rfl, by simp, by simpa using HO.out, HB.out⟩
      case round =>
        obtain ⟨m, hm, rfl, rfl, ho, hb⟩ := hrel
        have HO1 := Lib.hid ho
        have HB1 := Lib.hid hb
        clear ho hb
        by_cases hm8 : m < 8
        · have tm : decide ((m : Int) < 8) = true := by simp; omega
          have HN := Lib.hid (bits_next (c := x) hm8)
          have hq : x.toNat / 2 ^ m < 256 := Nat.lt_of_le_of_lt (Nat.div_le_self _ _) hx8
          have HQ : Hid (x.toNat / 2 ^ (m + 1) = x.toNat / 2 ^ m / 2) := Lib.hid (by rw [Nat.pow_succ, Nat.div_div_eq_div_mul])
          have HBT : Hid (((((x.toNat / 2 ^ m : Nat) : Int) % 2) == 1) = bitOf x.toNat m) := Lib.hid (odd_val _)
          generalize x.toNat / 2 ^ m = q at *
          go_wp2_with (refine wpList_append_vals rfl (.tmp 22) (.tmp 26) 24 rfl w.heap.size 4 i0 (.bool false) 1 Try.underlying24 HX.out.1 HX.out.2.1 HX.out.2.2.1 HX.out.2.2.2 rfl u3 (8 * j + m) _ rfl (HO1.out.alloc _) ⟨wr.heap.size, 0, none⟩ 1 1 [.bool ((q : Int) % 2 == 1)] rfl rfl (new_cells wr #[.bool ((q : Int) % 2 == 1)] _) (by intro u hu; simp at hu; subst hu; rfl) (by unfold maxLen; omega) (by omega) (by have := HB1.out.size; simp; omega) ?_; intro v1 w1 hown1 hgrow1; have HO2 := Lib.hid hown1; have HG2 := Lib.hid hgrow1; clear hown1 hgrow1)
          have HB2 := Lib.hid (Grew.below (HB1.out.alloc HB1.out.size (.cells #[.bool ((q : Int) % 2 == 1)] 4)) HG2.out (by have := HB1.out.size; simp; omega) (fun k hk => (HO1.out.lt k hk).1))
          go_roundw
          case rel =>
            refine ⟨m + 1, by omega, by go_num, by rw [HQ.out]; congr 1, ?_, HB2.out⟩
            have h := HO2.out
            rw [HBT.out] at h
            rw [HN.out, ← List.append_assoc, List.map_append]
            exact h
          case measure => simp [intOf] <;> omega
        · obtain rfl : m = 8 := by omega
          have tm : decide (((8 : Nat) : Int) < 8) = false := by decide
          go_wp2_with fail
          go_roundw
          case rel =>
            refine ⟨j + 1, by omega, by go_num, ?_, HB1.out⟩
            have h := HO1.out
            rw [bits_all] at h
            rw [HT.out, show 8 * (j + 1) = 8 * j + 8 by omega]
            exact h
          case measure => simp [intOf] <;> omega
    · obtain rfl : j = n := by omega
      have tb : decide ((j : Int) < (j : Int)) = false := by simp
      have HT : Hid (l.take j = l) := Lib.hid (List.take_of_length_le (by omega))
      go_wp2_with fail
      go_ret
      have h := HO.out
      rw [HT.out] at h
      exact Fresh.of_own h (Nat.le_refl _) HB.out
end Go.Proofs.Ytenfcpdoingdeaa.RefW
