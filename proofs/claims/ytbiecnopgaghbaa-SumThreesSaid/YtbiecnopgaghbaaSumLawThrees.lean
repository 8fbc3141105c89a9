/- SumThrees, walked: three rows of bytes changed together. -/
import Derived.Test.YtbiecnopgaghbaaSumAwake
import Derived.Test.YtbiecnopgaghbaaSumLawZeros
import Derived.RegionTactic
import Derived.Deep.RegionWith
open Go.RowKit
namespace Go.Proofs.Ytbiecnopgaghbaa.SumW
open SumM Mem

theorem run_min4 (P : Program) (w : World) (ts : Array TypeId) (t : TypeId) (a b c d m : Nat) (D : Int) (hD : D = (d : Int)) (h : m = min (min a b) (min c d)) :
    (Builtin.min_ ts t #[.int .i64 (a : Int), .int .i64 (b : Int), .int .i64 (c : Int), .int .i64 D]).run P w = .ok (.int .i64 (m : Int)) w := by
  subst hD
  have h2 : (if (d : Int) < (if (c : Int) < (if (b : Int) < (a : Int) then (b : Int) else (a : Int)) then (c : Int) else (if (b : Int) < (a : Int) then (b : Int) else (a : Int))) then (d : Int) else (if (c : Int) < (if (b : Int) < (a : Int) then (b : Int) else (a : Int)) then (c : Int) else (if (b : Int) < (a : Int) then (b : Int) else (a : Int)))) = (m : Int) := by
    subst h
    repeat' split
    all_goals omega
  rw [← h2]
  simp [Builtin.min_, Builtin.min2]
theorem xor3_length : ∀ (l m n : List UInt8), l.length = m.length → m.length = n.length → (xor3 l m n).length = l.length
  | [], [], [], _, _ => rfl
  | _ :: l, _ :: m, _ :: n, h1, h2 => by simp [xor3, xor3_length l m n (by simpa using h1) (by simpa using h2)]
  | [], [], _ :: _, _, h => by simp at h
  | [], _ :: _, _, h, _ => by simp at h
  | _ :: _, [], _, h, _ => by simp at h
  | _ :: _, _ :: _, [], _, h => by simp at h
theorem xor3_at : ∀ (l m n : List UInt8) (i : Nat) (x y z : UInt8), l[i]? = some x → m[i]? = some y → n[i]? = some z → (xor3 l m n)[i]? = some (x ^^^ y ^^^ z)
  | a :: l, b :: m, c :: n, 0, x, y, z, h1, h2, h3 => by
    simp only [List.getElem?_cons_zero, Option.some.injEq] at h1 h2 h3
    subst h1 h2 h3
    rfl
  | a :: l, b :: m, c :: n, i + 1, x, y, z, h1, h2, h3 => by
    simp only [List.getElem?_cons_succ] at h1 h2 h3
    exact xor3_at l m n i x y z h1 h2 h3
  | [], _, _, _, _, _, _, h, _, _ => by simp at h
  | _ :: _, [], _, _, _, _, _, _, h, _ => by simp at h
  | _ :: _, _ :: _, [], _, _, _, _, _, _, h => by simp at h
theorem u8_xor2 (x y : UInt8) : bits .xor .u8 (x.toNat : Int) (y.toNat : Int) = ((x ^^^ y).toNat : Int) := by
  rw [u8_xor_nat x.toNat y.toNat x.toNat_lt y.toNat_lt, UInt8.toNat_xor]

/-- The row of the answer when the first i bytes are there. -/
def linRow (X : List UInt8) (N i : Nat) : List Value := (X.take i).map b8 ++ List.replicate (N - i) (.int .u8 0)
theorem linRow_zero (X : List UInt8) (N : Nat) : linRow X N 0 = List.replicate N (.int .u8 0) := by simp [linRow]
theorem linRow_at {X : List UInt8} {N i : Nat} (hX : X.length = N) (hi : i < N) : (linRow X N i)[i]? = some (.int .u8 0) := by
  unfold linRow
  have hl : ((X.take i).map b8).length = i := by simp; omega
  rw [List.getElem?_append_right (by omega), hl, Nat.sub_self, List.getElem?_replicate, if_pos (by omega)]
theorem linRow_set {X : List UInt8} {N i : Nat} (hX : X.length = N) {x : UInt8} (hx : X[i]? = some x) : (linRow X N i).toArray.setIfInBounds i (b8 x) = (linRow X N (i + 1)).toArray := by
  have hi : i < N := by
    rcases Nat.lt_or_ge i X.length with h | h
    · omega
    · rw [List.getElem?_eq_none h] at hx; cases hx
  rw [List.setIfInBounds_toArray]
  congr 1
  unfold linRow
  rw [List.set_append_right _ _ (by simp; omega)]
  have h1 : i - ((X.take i).map b8).length = 0 := by simp; omega
  rw [h1, show N - i = (N - (i + 1)) + 1 by omega, List.replicate_succ, List.set_cons_zero, List.take_add_one, hx]
  simp
theorem linRow_full {X : List UInt8} {N : Nat} (hX : X.length = N) : linRow X N N = X.map b8 := by
  unfold linRow
  rw [List.take_of_length_le (by omega), Nat.sub_self]
  simp

set_option maxHeartbeats 1000000 in
theorem SumThrees_walk (a1 : Option Addr) (n1 c1 : Nat) (l1 : List UInt8) (a2 : Option Addr) (n2 c2 : Nat) (l2 : List UInt8) (a3 : Option Addr) (n3 c3 : Nat) (l3 : List UInt8) (w : World)
    (h1 : Sl b8 w w.heap.size a1 n1 c1 l1) (h2 : Sl b8 w w.heap.size a2 n2 c2 l2) (h3 : Sl b8 w w.heap.size a3 n3 c3 l3) :
    Calls Try.prog 6 #[.slice a1 n1 c1, .slice a2 n2 c2, .slice a3 n3 c3] w (Says (.bool true) w) := by
  obtain ⟨i0, hi, hz0, hz1, hz2⟩ := info_parts info8
  obtain ⟨N, hN⟩ : ∃ N, N = min (min n1 n2) (min n3 300) := ⟨_, rfl⟩
  have hmin := run_min4 Try.prog w #[3, 3, 3, 3] 3 n1 n2 n3 300 N 300 rfl hN
  have hN1 : N ≤ n1 := by omega
  have hN2 : N ≤ n2 := by omega
  have hN3 : N ≤ n3 := by omega
  have hN4 : N ≤ 300 := by omega
  clear hN
  have t1 := h1.take_ hN1
  have t2 := h2.take_ hN2
  have t3 := h3.take_ hN3
  have k1 := t1.len
  have k2 := t2.len
  have k3 := t3.len
  generalize hX : xor3 (l1.take N) (l2.take N) (l3.take N) = X
  have hXl : X.length = N := by rw [← hX, xor3_length _ _ _ (by omega) (by omega), k1]
  have HX := Lib.hid hX
  have HXl := Lib.hid hXl
  clear hX hXl k1 k2 k3
  go_enter Try.func6, Try.ntmps6
  go_wp2_with (at_make; refine wpList_make_row rfl (.tmp 17) (.tmp 17) 23 rfl 5 i0 (.int .u8 0) 1 Try.underlying23 hi hz0 hz1 hz2 rfl .i64 .i64 _ _ N N rfl rfl rfl rfl (Nat.le_refl _) (by omega) (by omega) ?_; intro w1 hr1 hb1 hs1)
  generalize hg : w.heap.size = g at *
  have HG := Lib.hid hg
  clear hmin hg
  go_loopw [21] (fun i wr => ∃ k : Nat, k ≤ N ∧ i = .int .i64 k ∧ Below g w wr ∧ wr.heap[g]? = some (.cells (linRow X N k).toArray 5 (0, 0))) (fun i _ => N - (intOf i).toNat)
  case atStart => exact ⟨0, by omega, rfl, hb1, by rw [linRow_zero]; exact hr1.out⟩
  case round =>
    obtain ⟨k, hk, rfl, hbr, hrow⟩ := hrel
    by_cases hlt : k < N
    · obtain ⟨b1, o1, x, rfl, q1, e1, m1⟩ := (t1.below hbr (Nat.le_refl _)).at_ hlt
      obtain ⟨b2, o2, y, rfl, q2, e2, m2⟩ := (t2.below hbr (Nat.le_refl _)).at_ hlt
      obtain ⟨b3, o3, z, rfl, q3, e3, m3⟩ := (t3.below hbr (Nat.le_refl _)).at_ hlt
      have hx := xor3_at _ _ _ k x y z e1 e2 e3
      rw [HX.out] at hx
      have hset := linRow_set HXl.out hx
      have hcell : wr.cell? ⟨g, k, none⟩ = some (.int .u8 0) := by
        rw [cell_of_row _ _ _ _ _ _ hrow]
        simpa using linRow_at HXl.out hlt
      have hfz := frozen_of_row _ _ k _ _ hrow
      obtain ⟨u, hu⟩ : ∃ u, x ^^^ y = u := ⟨_, rfl⟩
      obtain ⟨v, hv⟩ : ∃ v, u ^^^ z = v := ⟨_, rfl⟩
      rw [hu, hv] at hset
      have f1 := u8_xor2 x y
      have f2 := u8_xor2 u z
      rw [hu] at f1
      rw [hv] at f2
      have hnew : (wr.setCell ⟨g, k, none⟩ (b8 v)).heap[g]? = some (.cells (linRow X N (k + 1)).toArray 5 (0, 0)) := by
        rw [heap_setCell_same _ _ _ _ _ _ hrow, hset]
      have Hnew := Lib.hid hnew
      have Hb := Lib.hid (hbr.setCell (p := ⟨g, k, none⟩) (Nat.le_refl _) (b8 v))
      clear hnew hset hx hu hv e1 e2 e3 hrow hbr
      have i0' : (0 : Int) ≤ (k : Int) := by omega
      have i1 : (k : Int) < (n1 : Int) := by omega
      have i2 : (k : Int) < (n2 : Int) := by omega
      have i3 : (k : Int) < (n3 : Int) := by omega
      have hb : decide ((k : Int) < (N : Int)) = true := by simp; omega
      clear t1 t2 t3 h1 h2 h3
      go_wp2
      go_region
      go_wp2
      go_roundw
      case rel => exact ⟨k + 1, by omega, by go_num, Hb.out.drew, Hnew.out⟩
      case measure => simp [intOf]; omega
    · obtain rfl : k = N := by omega
      rw [linRow_full HXl.out] at hrow
      have hlen : (X.map b8).length = k := by rw [List.length_map, HXl.out]
      have hown := own_of_row hrow (n := k) (by omega) (by rw [hlen]; unfold maxLen; omega) (base := 0) (Nat.zero_le _)
      rw [hlen, List.take_of_length_le (by omega)] at hown
      obtain ⟨a0, c0, hv, s0⟩ := Sl.of_own hown
      injection hv with hv1 hv2 hv3
      subst hv1 hv3
      have hzr : g ≤ wr.heap.size := by have h := hbr.size; rw [HG.out] at h; exact h
      have s1 := (t1.below hbr (Nat.le_refl _)).more hzr
      have s2 := (t2.below hbr (Nat.le_refl _)).more hzr
      have s3 := (t3.below hbr (Nat.le_refl _)).more hzr
      have hN1' : (k : Int) ≤ (c1 : Int) := by have := t1.nle; omega
      have hN2' : (k : Int) ≤ (c2 : Int) := by have := t2.nle; omega
      have hN3' : (k : Int) ≤ (c3 : Int) := by have := t3.nle; omega
      have k1 := t1.len
      have k2 := t2.len
      have k3 := t3.len
      have hsum : bytesN X = bytesN (l1.take k) ^^^ bytesN (l2.take k) ^^^ bytesN (l3.take k) := by
        rw [← HX.out]
        exact bytesN_xor3 _ _ _ (by omega) (by omega)
      have g1 := bytesN_lt (l1.take k)
      have g2 := bytesN_lt (l2.take k)
      have g3 := bytesN_lt (l3.take k)
      have C : ∀ (a : Option Addr) (c : Nat) (l : List UInt8), Sl b8 wr wr.heap.size a k c l → ∀ W, Below wr.heap.size wr W → Calls Try.prog 11 #[.slice a k c] W fun e W' => e = .returned (.int .u32 (bytesN l)) ∧ Below wr.heap.size wr W' :=
        fun a c l hs W hW => (Bytes_any a k c l _ W (hs.below hW (Nat.le_refl _))).mono fun e W' ⟨he, hb⟩ => ⟨he, hb ▸ hW⟩
      have C0 := Lib.hid (C _ _ _ s0)
      have C1 := Lib.hid (C _ _ _ s1)
      have C2 := Lib.hid (C _ _ _ s2)
      have C3 := Lib.hid (C _ _ _ s3)
      have D : ∀ W, Below wr.heap.size wr W → Calls Try.prog 8 #[] W fun e W' => e = .returned (.bool true) ∧ Below wr.heap.size wr W' :=
        fun W hW => (awake_any W).mono fun e W' ⟨he, hb⟩ => ⟨he, hW.trans (hb.mono hW.size)⟩
      have D0 := Lib.hid D
      clear C D s0 s1 s2 s3 t1 t2 t3 h1 h2 h3 k1 k2 k3 hown hrow
      generalize bytesN X = S0 at *
      generalize bytesN (l1.take k) = S1 at *
      generalize bytesN (l2.take k) = S2 at *
      generalize bytesN (l3.take k) = S3 at *
      have f1 := u32_xor_nat S1 S2 g1 g2
      have f2 := u32_xor_nat (S1 ^^^ S2) S3 (xor_lt g1 g2) g3
      rw [← hsum] at f2
      generalize S1 ^^^ S2 = T at *
      clear hsum g1 g2 g3
      have hb : decide ((k : Int) < (k : Int)) = false := by simp
      have R0 := Below.refl wr.heap.size wr
      clear hlen hk hlt hr1 HX HXl hs1 hb1 hN1 hN2 hN3
      go_wp2_with fail
      go_region_with (first
        | (go_at_call_of 11 (Value.slice (some ⟨g, 0, none⟩) k k); refine (C0.out _ ?_).mono ?_; (first | assumption | exact R0.drew); rintro e w' ⟨rfl, Q⟩)
        | (go_at_call_of 11 (Value.slice a1 k c1); refine (C1.out _ ?_).mono ?_; (first | assumption | exact R0.drew); rintro e w' ⟨rfl, Q⟩)
        | (go_at_call_of 11 (Value.slice a2 k c2); refine (C2.out _ ?_).mono ?_; (first | assumption | exact R0.drew); rintro e w' ⟨rfl, Q⟩)
        | (go_at_call_of 11 (Value.slice a3 k c3); refine (C3.out _ ?_).mono ?_; (first | assumption | exact R0.drew); rintro e w' ⟨rfl, Q⟩)
        | (go_at_call 8; refine (D0.out _ ?_).mono ?_; (first | assumption | exact R0.drew); rintro e w' ⟨rfl, Q⟩))
      all_goals
        go_wp2
        go_ret
        refine Says.mk ?_
        rw [HG.out]
        exact hbr.trans (Below.mono (by assumption) hzr)
end Go.Proofs.Ytbiecnopgaghbaa.SumW
