/- Registers' bytes, and their check sum, by the program and by the document's own answer. -/
import Derived.Test.YtbiecnopgaghbaaSumA
import Derived.Test.YtbiecnopgaghbaaAskBits
import Derived.Test.YtbiecnopgaghbaaStep
open Go.RowKit
namespace Go.Proofs.Ytbiecnopgaghbaa.SumW
open AskM (hi lo toNat_hi toNat_lo putN putN_append)
open SumM Mem

theorem hi_val (x : UInt16) : Value.int .u8 ((x.toNat : Int) / 256) = b8 (hi x) := by rw [b8, toNat_hi]; rfl
theorem lo_val (x : UInt16) : Value.int .u8 ((x.toNat : Int) % 256) = b8 (lo x) := by rw [b8, toNat_lo]; rfl
theorem take_put {l : List UInt16} {k : Nat} {x : UInt16} (h : l[k]? = some x) : putN (l.take (k + 1)) = putN (l.take k) ++ [hi x, lo x] := by
  have : l.take (k + 1) = l.take k ++ [x] := by rw [List.take_add_one, h]; rfl
  rw [this, putN_append]
  rfl
theorem reg_hi (x : UInt16) : Value.int .u8 (IntKind.u8.wrap ((x.toNat : Int) / 256)) = b8 (hi x) := by
  have := x.toNat_lt
  rw [IntKind.wrap_u8', ← hi_val]; congr 1; omega
theorem reg_lo (x : UInt16) : Value.int .u8 (IntKind.u8.wrap (x.toNat : Int)) = b8 (lo x) := by rw [IntKind.wrap_u8', ← lo_val]
/-- One more at the end of a row of the call's own: nothing below the call's begin is written. -/
theorem own_up {w wr w1 : World} {v v' : Value} {T : TypeId} {n : Nat} {xs : List Value} {o : Obj} (hb : Below w.heap.size w wr) (ho : wr.ownsRow w.heap.size T 1 v n xs) (hg : Grew ((wr.alloc o).drew) v w1 v') : Below w.heap.size w w1 :=
  Grew.below ((hb.alloc hb.size o).drew) hg (by have := hb.size; simp; omega) fun k hk => (ho.lt k hk).1
set_option maxRecDepth 100000 in
theorem PackRegs_any (a : Option Addr) (n c : Nat) (l : List UInt16) (w : World) (hS : Sl b16 w w.heap.size a n c l) (hn : n ≤ 100000) :
    Calls Try.prog 20 #[.slice a n c] w (Fresh b8 (putN l) w) := by
  obtain ⟨i0, hi0, hz0, hz1, hz2⟩ := info_parts info8
  have hz2' : i0.bytes = 1 := hz2
  have HL := Lib.hid hS.len
  have HX := Lib.hid (And.intro hi0 (And.intro hz0 (And.intro hz1 hz2')))
  clear hi0 hz0 hz1 hz2 hz2'
  go_enter Try.func20, Try.ntmps20
  go_wp2_with (refine wpList_make_row rfl (.const (.int .i64 0)) (.tmp 7) 23 rfl 5 i0 (.int .u8 0) 1 Try.underlying23 HX.out.1 HX.out.2.1 HX.out.2.2.1 HX.out.2.2.2 rfl .i64 .i64 _ _ 0 (2 * n) rfl rfl ?c1 ?c2 (Nat.zero_le _) ?c3 ?c4 ?_)
  case c1 => rfl
  case c2 => omega
  case c3 => omega
  case c4 => omega
  intro w1 h1 hb1 hs1
  have ho := own_of_row (w := w1) (g := w.heap.size) (e := 5) (cs := List.replicate (2 * n) (.int .u8 0)) (by simpa using h1.out) (n := 0) (Nat.zero_le _) (by simp; unfold maxLen; omega) (base := w.heap.size) (Nat.le_refl _)
  simp only [List.length_replicate, List.take_zero] at ho
  have HO := Lib.hid ho
  clear ho h1 hs1
  go_wp2_with fail
  go_loopw [3, 11] (fun v i wr => ∃ k : Nat, k ≤ n ∧ i = .int .i64 k ∧ Below w.heap.size w wr ∧ wr.ownsRow w.heap.size 5 1 v (2 * k) ((putN (l.take k)).map b8)) (fun _ i _ => n - (intOf i).toNat)
  case atStart => exact ⟨0, by omega, rfl, hb1, HO.out⟩
  case round =>
    obtain ⟨k, hk, rfl, hb, ho⟩ := hrel
    have HB := Lib.hid hb
    have HO1 := Lib.hid ho
    clear hb1 HO hb ho
    by_cases hlt : k < n
    · have hl := hS.below HB.out (Nat.le_refl _)
      obtain ⟨b, off, x, rfl, hbk, hx, hcell⟩ := hl.at_ hlt
      have ht : decide ((k : Int) < (n : Int)) = true := by simp; omega
      have HT := Lib.hid (take_put hx)
      have i1 : (0 : Int) ≤ (k : Int) := by omega
      have i2 : (k : Int) < (n : Int) := by omega
      have hx16 := x.toNat_lt
      have HC0 := Lib.hid ((HB.out.cell (p := ⟨b, off + k, none⟩) hbk).symm.trans hcell)
      clear hx hl hS
      go_wp2_with fail
      go_region_held3 (fun w' => w'.cell? ⟨b, off + k, none⟩ = some (b16 x))
        (first
          | with_reducible exact hcell
          | with_reducible exact hq
          | go_keep)
        (first
          | ((refine step_append_grew (by rfl) _ _ _ (by rfl) w.heap.size 5 i0 (.int .u8 0) 1 Try.underlying23 HX.out.1 HX.out.2.1 HX.out.2.2.1 HX.out.2.2.2 rfl u3 (2 * k) _ (by rfl) ((HO1.out.alloc _).drew) ⟨wr.heap.size, 0, none⟩ 2 2 [.int .u8 (IntKind.u8.wrap ((x.toNat : Int) / 256)), .int .u8 (IntKind.u8.wrap (x.toNat : Int))] (by rfl) (by rfl) (new_cells wr #[.int .u8 (IntKind.u8.wrap ((x.toNat : Int) / 256)), .int .u8 (IntKind.u8.wrap (x.toNat : Int))] _) (by intro u hu; simp at hu; rcases hu with rfl | rfl <;> rfl) (by omega) (by unfold maxLen; omega) (by omega) (by have := HB.out.size; simp; omega) ?_; intro v2 w2 hown2 hgrow2; have HO2 := Lib.hid hown2; have hb2 := own_up HB.out HO1.out hgrow2; have HB2 := Lib.hid hb2; have hq : w2.cell? ⟨b, off + k, none⟩ = some (b16 x) := (hb2.cell hbk).trans HC0.out; clear hown2 hgrow2 hb2)))
      go_wp2_with fail
      go_roundw
      case rel =>
        refine ⟨k + 1, by omega, by go_num, HB2.out, ?_⟩
        have h := HO2.out
        rw [reg_hi, reg_lo] at h
        rw [HT.out, List.map_append]
        simpa [Nat.mul_add] using h
      case measure => simp [intOf]; omega
    · obtain rfl : k = n := by omega
      have ht : decide ((k : Int) < (k : Int)) = false := by simp
      clear hS
      go_wp2_with fail
      go_ret
      have h := HO1.out
      rw [List.take_of_length_le (by rw [HL.out]; exact Nat.le_refl _)] at h
      exact Fresh.of_own h (Nat.le_refl _) HB.out
theorem Words_any (a : Option Addr) (n c : Nat) (l : List UInt16) (w : World) (hS : Sl b16 w w.heap.size a n c l) (hn : n ≤ 100000) :
    Calls Try.prog 13 #[.slice a n c] w (Says (.int .u32 (bytesN (putN l))) w) := by
  go_enter Try.func13, Try.ntmps13
  go_wp2_with fail
  refine (PackRegs_any a n c l w hS hn).mono ?_
  rintro e w1 ⟨a1, c1, rfl, s1, b1, _⟩
  go_wp2_with fail
  refine (Bytes_any a1 _ c1 _ _ _ s1).mono ?_
  rintro e w2 ⟨rfl, rfl⟩
  go_wp2_with fail
  go_ret
  exact Says.mk b1
theorem ref_hi (x : UInt16) : Value.int .u8 (IntKind.u8.wrap (IntKind.u16.wrap ((x.toNat : Int) / 256))) = b8 (hi x) := by
  have := x.toNat_lt
  rw [← reg_hi, IntKind.wrap_u16]; congr 2; omega
theorem ref_lo (x : UInt16) : Value.int .u8 (IntKind.u8.wrap ((x.toNat : Int).tmod 256)) = b8 (lo x) := by
  rw [IntKind.wrap_u8', ← lo_val, Int.tmod_eq_emod_of_nonneg (by omega)]; congr 1; omega
set_option maxRecDepth 100000 in
theorem rWords_any (a : Option Addr) (n c : Nat) (l : List UInt16) (w : World) (hS : Sl b16 w w.heap.size a n c l) (hn : n ≤ 100000) :
    Calls Try.prog 14 #[.slice a n c] w (Says (.int .u32 (bytesN (putN l))) w) := by
  obtain ⟨i0, hi0, hz0, hz1, hz2⟩ := info_parts info8
  have hz2' : i0.bytes = 1 := hz2
  have HL := Lib.hid hS.len
  have HX := Lib.hid (And.intro hi0 (And.intro hz0 (And.intro hz1 hz2')))
  clear hi0 hz0 hz1 hz2 hz2'
  go_enter Try.func14, Try.ntmps14
  go_wp2_with fail
  go_loopw [3, 4] (fun v i wr => ∃ k : Nat, k ≤ n ∧ i = .int .i64 k ∧ Below w.heap.size w wr ∧ wr.ownsRow w.heap.size 5 1 v (2 * k) ((putN (l.take k)).map b8)) (fun _ i _ => n - (intOf i).toNat)
  case atStart => exact ⟨0, by omega, rfl, Below.refl _ _, World.ownsRow_nil _ _ _ _⟩
  case round =>
    obtain ⟨k, hk, rfl, hb, ho⟩ := hrel
    have HB := Lib.hid hb
    have HO1 := Lib.hid ho
    clear hb ho
    by_cases hlt : k < n
    · have hl := hS.below HB.out (Nat.le_refl _)
      obtain ⟨b, off, x, rfl, hbk, hx, hcell⟩ := hl.at_ hlt
      have ht : decide ((k : Int) < (n : Int)) = true := by simp; omega
      have HT := Lib.hid (take_put hx)
      have i1 : (0 : Int) ≤ (k : Int) := by omega
      have i2 : (k : Int) < (n : Int) := by omega
      have hx16 := x.toNat_lt
      have HC0 := Lib.hid ((HB.out.cell (p := ⟨b, off + k, none⟩) hbk).symm.trans hcell)
      clear hx hl hS
      go_wp2_with fail
      go_region_held3 (fun w' => w'.cell? ⟨b, off + k, none⟩ = some (b16 x))
        (first
          | with_reducible exact hcell
          | with_reducible exact hq
          | go_keep)
        (first
          | ((refine step_append_grew (by rfl) _ _ _ (by rfl) w.heap.size 5 i0 (.int .u8 0) 1 Try.underlying23 HX.out.1 HX.out.2.1 HX.out.2.2.1 HX.out.2.2.2 rfl u3 (2 * k) _ (by rfl) ((HO1.out.alloc _).drew) ⟨wr.heap.size, 0, none⟩ 2 2 [.int .u8 (IntKind.u8.wrap (IntKind.u16.wrap ((x.toNat : Int) / 256))), .int .u8 (IntKind.u8.wrap ((x.toNat : Int).tmod 256))] (by rfl) (by rfl) (new_cells wr #[.int .u8 (IntKind.u8.wrap (IntKind.u16.wrap ((x.toNat : Int) / 256))), .int .u8 (IntKind.u8.wrap ((x.toNat : Int).tmod 256))] _) (by intro u hu; simp at hu; rcases hu with rfl | rfl <;> rfl) (by omega) (by unfold maxLen; omega) (by omega) (by have := HB.out.size; simp; omega) ?_; intro v2 w2 hown2 hgrow2; have HO2 := Lib.hid hown2; have hb2 := own_up HB.out HO1.out hgrow2; have HB2 := Lib.hid hb2; have hq : w2.cell? ⟨b, off + k, none⟩ = some (b16 x) := (hb2.cell hbk).trans HC0.out; clear hown2 hgrow2 hb2)))
      go_wp2_with fail
      go_roundw
      case rel =>
        refine ⟨k + 1, by omega, by go_num, HB2.out, ?_⟩
        have h := HO2.out
        rw [ref_hi, ref_lo] at h
        rw [HT.out, List.map_append]
        simpa [Nat.mul_add] using h
      case measure => simp [intOf]; omega
    · obtain rfl : k = n := by omega
      have ht : decide ((k : Int) < (k : Int)) = false := by simp
      clear hS
      have h := HO1.out
      rw [List.take_of_length_le (by rw [HL.out]; exact Nat.le_refl _)] at h
      obtain ⟨ra, rc, rfl, rS⟩ := Sl.of_own h
      go_wp2_with fail
      refine (rBytes_any ra _ rc _ _ _ rS).mono ?_
      rintro e w5 ⟨rfl, rfl⟩
      go_wp2_with fail
      go_ret
      exact Says.mk HB.out
end Go.Proofs.Ytbiecnopgaghbaa.SumW
