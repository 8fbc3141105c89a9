/- The document's own answer on registers. -/
import Derived.Test.YtmcclopkmoomeaaWdRegs
import Derived.Test.YtmcclopkmoomeaaWdRefM
import Derived.Test.YtmcclopkmoomeaaWdPackRegs
import Derived.Test.YtmcclopkmoomeaaStep
open Go.RowKit
namespace Go.Proofs.Ytmcclopkmoomeaa.WdW
open AskM WdM Mem

theorem ref_hi (x : UInt16) : Value.int .u8 (IntKind.u8.wrap (IntKind.u16.wrap ((x.toNat : Int) / 256))) = b8 (hi x) := by
  have := x.toNat_lt
  rw [← reg_hi, IntKind.wrap_u16]; congr 2; omega
theorem ref_lo (x : UInt16) : Value.int .u8 (IntKind.u8.wrap ((x.toNat : Int).tmod 256)) = b8 (lo x) := by
  rw [IntKind.wrap_u8', ← lo_val, Int.tmod_eq_emod_of_nonneg (by omega)]; congr 1; omega
set_option maxRecDepth 100000 in
theorem rPackRegs_any (a : Option Addr) (n c : Nat) (l : List UInt16) (w : World) (hS : Sl b16 w w.heap.size a n c l) (hn : n ≤ 100000) :
    Calls Try.prog 17 #[.slice a n c] w (Fresh b8 (putN l) w) := by
  obtain ⟨i0, hi0, hz0, hz1, hz2⟩ := info_parts info8
  have hz2' : i0.bytes = 1 := hz2
  have HL := Lib.hid hS.len
  have HX := Lib.hid (And.intro hi0 (And.intro hz0 (And.intro hz1 hz2')))
  clear hi0 hz0 hz1 hz2 hz2'
  go_enter Try.func17, Try.ntmps17
  go_wp2_with fail
  go_loopw [3, 4] (fun v i wr => ∃ k : Nat, k ≤ n ∧ i = .int .i64 k ∧ Below w.heap.size w wr ∧ wr.ownsRow w.heap.size 5 1 v (2 * k) ((putN (l.take k)).map b8)) (fun _ i _ => n - (intOf i).toNat)
  case atStart => exact ⟨0, by omega, rfl, Below.refl _ _, World.ownsRow_nil _ _ _ _⟩
  case round =>
    obtain ⟨k, hk, rfl, hb, ho⟩ := hrel
    have HB := Lib.hid hb
    have HO1 := Lib.hid ho
    clear hb ho
    by_cases hlt : k < n
    · have hl := hS.below HB.out (Nat.le_refl _)
      obtain ⟨b, off, x, rfl, hbk, hx, hcell⟩ := hl.at_ hlt
      have ht : decide ((k : Int) < (n : Int)) = true := by simp; omega
      have HT := Lib.hid (take_put hx)
      have i1 : (0 : Int) ≤ (k : Int) := by omega
      have i2 : (k : Int) < (n : Int) := by omega
      have hx16 := x.toNat_lt
      have HC0 := Lib.hid ((HB.out.cell (p := ⟨b, off + k, none⟩) hbk).symm.trans hcell)
      clear hx hl hS
      go_wp2_with fail
      go_region_held3 (fun w' => w'.cell? ⟨b, off + k, none⟩ = some (b16 x))
        (first
          | with_reducible exact hcell
          | with_reducible exact hq
          | go_keep)
        (first
          | ((refine step_append_grew (by rfl) _ _ _ (by rfl) w.heap.size 5 i0 (.int .u8 0) 1 Try.underlying22 HX.out.1 HX.out.2.1 HX.out.2.2.1 HX.out.2.2.2 rfl u3 (2 * k) _ (by rfl) ((HO1.out.alloc _).drew) ⟨wr.heap.size, 0, none⟩ 2 2 [.int .u8 (IntKind.u8.wrap (IntKind.u16.wrap ((x.toNat : Int) / 256))), .int .u8 (IntKind.u8.wrap ((x.toNat : Int).tmod 256))] (by rfl) (by rfl) (new_cells wr #[.int .u8 (IntKind.u8.wrap (IntKind.u16.wrap ((x.toNat : Int) / 256))), .int .u8 (IntKind.u8.wrap ((x.toNat : Int).tmod 256))] _) (by intro u hu; simp at hu; rcases hu with rfl | rfl <;> rfl) (by omega) (by unfold maxLen; omega) (by omega) (by have := HB.out.size; simp; omega) ?_; intro v2 w2 hown2 hgrow2; have HO2 := Lib.hid hown2; have hb2 := own_up HB.out HO1.out hgrow2; have HB2 := Lib.hid hb2; have hq : w2.cell? ⟨b, off + k, none⟩ = some (b16 x) := (hb2.cell hbk).trans HC0.out; clear hown2 hgrow2 hb2)))
      go_wp2_with fail
      go_roundw
      case rel =>
        refine ⟨k + 1, by omega, by go_num, HB2.out, ?_⟩
        have h := HO2.out
        rw [ref_hi, ref_lo] at h
        rw [HT.out, List.map_append]
        simpa [Nat.mul_add] using h
      case measure => simp [intOf]; omega
    · obtain rfl : k = n := by omega
      have ht : decide ((k : Int) < (k : Int)) = false := by simp
      clear hS
      go_wp2_with fail
      go_ret
      have h := HO1.out
      rw [List.take_of_length_le (by rw [HL.out]; exact Nat.le_refl _)] at h
      exact Fresh.of_own h (Nat.le_refl _) HB.out
theorem num_val (x y : UInt8) : Value.int .u16 (IntKind.u16.wrap (IntKind.u16.wrap (256 * IntKind.u16.wrap (x.toNat : Int)) + IntKind.u16.wrap (y.toNat : Int))) = b16 (num x y) := by
  have := x.toNat_lt
  have := y.toNat_lt
  rw [IntKind.wrap_u16, IntKind.wrap_u16, IntKind.wrap_u16, IntKind.wrap_u16, b16, toNat_num]
  congr 1
  omega
theorem own_up16 {w wr w1 : World} {v v' : Value} {T : TypeId} {n : Nat} {xs : List Value} {o : Obj} (hb : Below w.heap.size w wr) (ho : wr.ownsRow w.heap.size T 1 v n xs) (hg : Grew ((wr.alloc o).drew) v w1 v') : Below w.heap.size w w1 := own_up hb ho hg
set_option maxRecDepth 100000 in
theorem rRegs_any (a : Option Addr) (n c : Nat) (l : List UInt8) (w : World) (hS : Sl b8 w w.heap.size a n c l) (hn : n ≤ 100000) :
    Calls Try.prog 9 #[.slice a n c] w (FreshOk (regsN l) (decide (n % 2 = 0)) w) := by
  by_cases hodd : n % 2 = 1
  · have ht : ((n : Int) % 2 != 0) = true := by rw [even_int]; simp [hodd]
    have HR : Hid (regsN l = [] ∧ decide (n % 2 = 0) = false) := Lib.hid ⟨by unfold regsN; rw [if_neg (by rw [hS.len]; omega)], decide_eq_false (by omega)⟩
    rw [HR.out.1, HR.out.2]
    clear hodd hS
    go_enter Try.func9, Try.ntmps9
    go_wp2_with fail
    go_ret2
    exact ⟨none, 0, rfl, Sl.none_, Below.refl _ _⟩
  have ht : ((n : Int) % 2 != 0) = false := by rw [even_int]; simp; omega
  have HR : Hid (regsN l = numsN l ∧ decide (n % 2 = 0) = true) := Lib.hid ⟨by unfold regsN; rw [if_pos (by rw [hS.len]; omega)], decide_eq_true (by omega)⟩
  rw [HR.out.1, HR.out.2]
  have hev : n % 2 = 0 := by omega
  clear hodd HR
  obtain ⟨i0, hi0, hz0, hz1, hz2⟩ := info_parts info16
  have hz2' : i0.bytes = 2 := hz2
  have HL := Lib.hid hS.len
  have HX := Lib.hid (And.intro hi0 (And.intro hz0 (And.intro hz1 hz2')))
  clear hi0 hz0 hz1 hz2 hz2'
  go_enter Try.func9, Try.ntmps9
  go_wp2_with fail
  go_loopw [4, 5] (fun v i wr => ∃ k p : Nat, p ≤ n ∧ Hid (p = 2 * k) ∧ i = .int .i64 (p : Int) ∧ Below w.heap.size w wr ∧ wr.ownsRow w.heap.size 36 1 v k (((numsN l).take k).map b16)) (fun _ i _ => n - (intOf i).toNat)
  case atStart => exact ⟨0, 0, by omega, Lib.hid rfl, rfl, Below.refl _ _, World.ownsRow_nil _ _ _ _⟩
  case round =>
    obtain ⟨k, p, hk, HP, rfl, hb, ho⟩ := hrel
    have hp1 := HP.out
    have HB := Lib.hid hb
    have HO1 := Lib.hid ho
    clear hb ho
    by_cases hlt : p < n
    · have hl := hS.below HB.out (Nat.le_refl _)
      obtain ⟨b, off, x, hab, hbk, hx, hcell⟩ := hl.at_ (k := p) hlt
      obtain ⟨b1, off1, y, hab1, hbk1, hy, hcell1⟩ := hl.at_ (k := p + 1) (by omega)
      rw [hab] at hab1
      injection hab1 with hab1
      injection hab1 with e1 e2
      subst e1 e2
      subst hab
      have htt : decide ((p : Int) < (n : Int)) = true := by simp; omega
      have HT := Lib.hid (nums_snoc (hp1 ▸ hx) (hp1 ▸ hy))
      have hkk : k ≤ p := by omega
      have i1 : (0 : Int) ≤ (p : Int) := by omega
      have i2 : (p : Int) < (n : Int) := by omega
      have i3 : (p : Int) + 1 < (n : Int) := by omega
      have i4 : (0 : Int) ≤ (p : Int) + 1 := by omega
      have hp63 : IntKind.i64.wrap ((p : Int) + 1) = ((p + 1 : Nat) : Int) := by
        rw [IntKind.wrap_i64]; omega
      have i5 : ((p + 1 : Nat) : Int) < (n : Int) := by omega
      have i6 : (0 : Int) ≤ ((p + 1 : Nat) : Int) := by omega
      have hx8 := x.toNat_lt
      have hy8 := y.toNat_lt
      have HC0 := Lib.hid ((HB.out.cell (p := ⟨b, off + p, none⟩) hbk).symm.trans hcell)
      have HC1 := Lib.hid ((HB.out.cell (p := ⟨b, off + (p + 1), none⟩) hbk).symm.trans hcell1)
      clear hx hy hl hS hp1
      go_wp2_with fail
      go_region_held3 (fun w' => w'.cell? ⟨b, off + p, none⟩ = some (b8 x) ∧ w'.cell? ⟨b, off + (p + 1), none⟩ = some (b8 y))
        (first
          | with_reducible exact ⟨hcell, hcell1⟩
          | with_reducible exact ⟨hq, hq1⟩
          | go_keep)
        (first
          | (go_loud (refine step_append_grew (by rfl) _ _ _ (by rfl) w.heap.size 36 i0 (.int .u16 0) 2 Try.underlying24 HX.out.1 HX.out.2.1 HX.out.2.2.1 HX.out.2.2.2 rfl u4 k _ (by rfl) ((HO1.out.alloc _).drew) ⟨wr.heap.size, 0, none⟩ 1 1 [.int .u16 (IntKind.u16.wrap (IntKind.u16.wrap (256 * IntKind.u16.wrap (x.toNat : Int)) + IntKind.u16.wrap (y.toNat : Int)))] (by rfl) (by rfl) (new_cells wr #[.int .u16 (IntKind.u16.wrap (IntKind.u16.wrap (256 * IntKind.u16.wrap (x.toNat : Int)) + IntKind.u16.wrap (y.toNat : Int)))] _) (by intro u hu; simp at hu; subst hu; rfl) (by omega) (by unfold maxLen; omega) (by omega) (by have := HB.out.size; simp; omega) ?_; intro v2 w2 hown2 hgrow2; have HO2 := Lib.hid hown2; have hb2 := own_up HB.out HO1.out hgrow2; have HB2 := Lib.hid hb2; have hq : w2.cell? ⟨b, off + p, none⟩ = some (b8 x) := (hb2.cell hbk).trans HC0.out; have hq1 : w2.cell? ⟨b, off + (p + 1), none⟩ = some (b8 y) := (hb2.cell hbk).trans HC1.out; clear hown2 hgrow2 hb2)))
      go_wp2_with fail
      go_roundw
      case rel =>
        refine ⟨k + 1, p + 2, by omega, Lib.hid (by have := HP.out; omega), by go_num, HB2.out, ?_⟩
        have h := HO2.out
        rw [num_val] at h
        rw [HT.out, List.map_append]
        exact h
      case measure => simp [intOf] <;> omega
    · have hk2 : 2 * k = n := by omega
      clear hp1
      have htt : decide ((p : Int) < (n : Int)) = false := by simp; omega
      have HK := Lib.hid hk2
      clear hS
      go_wp2_with fail
      go_ret2
      have h := HO1.out
      rw [List.take_of_length_le (by rw [length_numsN, HL.out]; omega)] at h
      exact FreshOk.of_own h HB.out (by simp)
end Go.Proofs.Ytmcclopkmoomeaa.WdW
