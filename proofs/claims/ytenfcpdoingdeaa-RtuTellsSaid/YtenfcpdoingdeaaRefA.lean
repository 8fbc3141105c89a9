/- The document's own answer on requests: numbers put behind bytes, and read. -/
import Derived.Test.YtenfcpdoingdeaaAskPut
open Go.RowKit
namespace Go.Proofs.Ytenfcpdoingdeaa.RefW
open AskM AskW Mem

set_option maxRecDepth 100000 in
theorem rTwo_any (v : Value) (n : Nat) (bs : List UInt8) (x : UInt16) (base : Nat) (w : World) (hown : w.ownsRow base 5 1 v n (bs.map b8)) (hlen : n + 2 ≤ 1000000) (hbase : base ≤ w.heap.size) :
    Calls Try.prog 52 #[v, .int .i64 (x.toNat : Int)] w (Puts base v (bs ++ putN [x]) w) := by
  obtain ⟨i0, hi0, hz0, hz1, hz2⟩ := info_parts info8
  have hz2' : i0.bytes = 1 := hz2
  have HO := Lib.hid hown
  have hx := x.toNat_lt
  have HX := Lib.hid (And.intro hi0 (And.intro hz0 (And.intro hz1 hz2')))
  clear hown hi0 hz0 hz1 hz2 hz2'
  go_enter Try.func52, Try.ntmps52
  go_wp2_with (first
    | (refine wpList_append_vals rfl (.tmp 5) (.tmp 9) 27 rfl base 5 i0 (.int .u8 0) 1 Try.underlying27 HX.out.1 HX.out.2.1 HX.out.2.2.1 HX.out.2.2.2 rfl v n _ rfl (HO.out.alloc _) ⟨w.heap.size, 0, none⟩ 1 1 [.int .u8 ((x.toNat : Int) / 256)] rfl rfl (new_cells w #[.int .u8 ((x.toNat : Int) / 256)] _) (by intro u hu; simp at hu; subst hu; rfl) (by unfold maxLen; omega) (by omega) (by simp; omega) ?_; intro v1 w1 hown1 hgrow1; have HO1 := Lib.hid hown1; have HG1 := Lib.hid hgrow1; clear hown1 hgrow1)
    | (refine wpList_append_vals rfl (.tmp 11) (.tmp 15) 27 rfl base 5 i0 (.int .u8 0) 1 Try.underlying27 HX.out.1 HX.out.2.1 HX.out.2.2.1 HX.out.2.2.2 rfl v1 (n + 1) _ rfl (HO1.out.alloc _) ⟨w1.heap.size, 0, none⟩ 1 1 [.int .u8 ((x.toNat : Int) % 256)] rfl rfl (new_cells w1 #[.int .u8 ((x.toNat : Int) % 256)] _) (by intro u hu; simp at hu; subst hu; rfl) (by unfold maxLen; omega) (by omega) (by have := HG1.out.size; simp at this ⊢; omega) ?_; intro v2 w2 hown2 hgrow2; have HO2 := Lib.hid hown2; have HG2 := Lib.hid hgrow2; clear hown2 hgrow2))
  go_ret
  have h := HO2.out
  rw [hi_val, lo_val] at h
  refine Puts.mk (n := n + 1 + 1) ?_ (HG1.out.alloc.trans HG2.out.alloc)
  rw [show putN [x] = [hi x, lo x] from rfl, List.map_append]
  simpa using h
set_option maxRecDepth 100000 in
theorem rWords_any (v : Value) (n : Nat) (bs : List UInt8) (a : Option Addr) (nw cw : Nat) (l : List UInt16) (base : Nat) (w : World) (hown : w.ownsRow base 5 1 v n (bs.map b8))
    (hS : Sl b16 w w.heap.size a nw cw l) (hne : ∀ x : Addr, a = some x → v.ownBlock ≠ some x.block) (hlen : n + 2 * nw ≤ 1000000) (hbase : base ≤ w.heap.size) :
    Calls Try.prog 53 #[v, .slice a nw cw] w (Puts base v (bs ++ putN l) w) := by
  have HH := Lib.hid hown
  clear hown
  go_enter Try.func53, Try.ntmps53
  go_wp2_with fail
  go_loopw [0, 5] (fun v1 i wr => ∃ k : Nat, k ≤ nw ∧ i = .int .i64 k ∧ wr.ownsRow base 5 1 v1 (n + 2 * k) ((bs ++ putN (l.take k)).map b8) ∧ Grew w v wr v1) (fun _ i _ => nw - (intOf i).toNat)
  case atStart => exact ⟨0, by omega, rfl, by simpa [putN] using HH.out, Grew.refl _ _⟩
  case round =>
    obtain ⟨k, hk, rfl, ho, hg⟩ := hrel
    by_cases hlt : k < nw
    · have hl := hS.grew hg hne
      obtain ⟨b, off, x, rfl, hbk, hx, hcell⟩ := hl.at_ hlt
      have HT := Lib.hid (take_put hx)
      have HO := Lib.hid ho
      have HG := Lib.hid hg
      have hx16 := x.toNat_lt
      have hb : decide ((k : Int) < (nw : Int)) = true := by simp; omega
      clear hx ho hg hS hl hne
      go_wp2_with fail
      refine (rTwo_any _ _ _ x base wr HO.out (by omega) (Nat.le_trans hbase HG.out.size)).mono ?_
      rintro e w1 ⟨v2, rfl, ho2, hg2⟩
      have HO2 := Lib.hid ho2
      have HG2 := Lib.hid hg2
      clear ho2 hg2
      go_wp2_with fail
      go_roundw
      case rel =>
        refine ⟨k + 1, by omega, by go_num, ?_, HG.out.trans HG2.out⟩
        have h := HO2.out
        rw [List.append_assoc, show putN [x] = [hi x, lo x] from rfl, ← HT.out] at h
        have hl := HO.out.1
        simp only [List.length_map, List.length_append, Nat.mul_one] at hl
        rw [show (bs ++ putN (l.take (k + 1))).length = n + 2 * (k + 1) by rw [HT.out]; simp only [List.length_append, List.length_cons, List.length_nil]; omega] at h
        exact h
      case measure => simp [intOf]; omega
    · obtain rfl : k = nw := by omega
      rw [List.take_of_length_le (by rw [hS.len]; exact Nat.le_refl _)] at ho
      have hb : decide ((k : Int) < (k : Int)) = false := by simp
      have HO := Lib.hid ho
      have HG := Lib.hid hg
      clear ho hg hS hne
      go_wp2_with fail
      go_ret
      exact Puts.mk HO.out HG.out

set_option maxRecDepth 100000 in
theorem rAt_any (B : Nat) (a : Option Addr) (n c : Nat) (l : List UInt8) (i : Nat) (w : World) (hS : Sl b8 w B a n c l) (hi : i ≤ 1000000) :
    Calls Try.prog 58 #[.slice a n c, .int .i64 (i : Int)] w fun e w' => e = .returned (.int .i64 ((at16 l i).toNat : Int)) ∧ ∃ q, w' = w.drewN q := by
  have hl := hS.len
  have hn := len_le hS
  by_cases h : n ≤ i + 1
  · have HV : Hid (at16 l i = 0) := Lib.hid (by unfold at16; rw [if_neg (by omega)])
    have tb : decide ((n : Int) ≤ (i : Int) + 1) = true := by simp; omega
    rw [HV.out]
    clear h
    go_enter Try.func58, Try.ntmps58
    go_wp2_with fail
    go_ret
    exact ⟨rfl, 0, rfl⟩
  · have tb : decide ((n : Int) ≤ (i : Int) + 1) = false := by simp; omega
    obtain ⟨b, off, hc0, rfl, hb, hcx, hcell⟩ := hS.at_ (k := i) (by omega)
    obtain ⟨b', off', y, he, _, hy, hcy⟩ := hS.at_ (k := i + 1) (by omega)
    injection he with he
    injection he with he1 he2
    subst he1 he2
    have HV : Hid (((at16 l i).toNat : Int) = 256 * (hc0.toNat : Int) + (y.toNat : Int)) := Lib.hid (by
      unfold at16
      rw [if_pos (by omega), toNat_num, show l.getD i 0 = hc0 by simp [List.getD, hcx], show l.getD (i + 1) 0 = y by simp [List.getD, hy]]
      omega)
    have i1 : (i : Int) < (n : Int) := by omega
    have i2 : (i : Int) + 1 < (n : Int) := by omega
    have hx8 := hc0.toNat_lt
    have hy8 := y.toNat_lt
    rw [HV.out]
    clear h hS hcx hy
    go_enter Try.func58, Try.ntmps58
    go_wp2_with fail
    go_quiet (fail)
    go_wp2_with fail
    go_ret
    exact ⟨rfl, _, rfl⟩
end Go.Proofs.Ytenfcpdoingdeaa.RefW
