/- What exceptions, and replies with bits, or words, read. -/
import Derived.Test.YtamdpinfbadflaaReplyRd
open Go.RowKit
namespace Go.Proofs.Ytamdpinfbadflaa.ReplyW
open AskM ReplyM AskW Mem

theorem bcell {W w1 : World} {B : Nat} (hb : Below B W w1) : (∀ b o, b < B → w1.cell? ⟨b, o, none⟩ = W.cell? ⟨b, o, none⟩) ∧ (∀ b o, b < B → w1.frozen? ⟨b, o, none⟩ = W.frozen? ⟨b, o, none⟩) :=
  ⟨fun b o h => hb.cell (p := ⟨b, o, none⟩) h, fun b o h => hb.frozen (p := ⟨b, o, none⟩) h⟩
theorem Wrong_at (f x : UInt8) (w : World) : Calls Try.prog 22 #[b8 f, b8 x] w fun e w' => e = .returned (.agg #[b8 (f % 128), b8 x, .slice none 0 0, .slice none 0 0, .int .u16 0, .int .u16 0]) ∧ Below w.heap.size w w' := (Wrong_any f x w).mono fun _ _ h => ⟨h.1, h.2⟩
theorem set_end {w W : World} {g : Nat} (h : RepBlock W g) (hb : Below w.heap.size w W) (hg : w.heap.size ≤ g) (f b m t ws bs : Value) :
    (setAll W g f b m t ws bs).heap[g]? = some (.cells #[f, b, m, t, ws, bs] 36 (0, 0)) ∧ Below w.heap.size w (setAll W g f b m t ws bs) := ⟨rsetAll_heap h, setAll_below hb hg⟩
set_option maxRecDepth 100000 in
set_option maxHeartbeats 2000000 in
theorem exc_read (a : Option Addr) (n c : Nat) (l : List UInt8) (w : World) (hS : Sl b8 w w.heap.size a n c l) :
    Calls Try.prog 93 #[.agg #[], .slice a n c] w (ReadR (readK .exc l) w) := by
  have hl := hS.len
  have hn := len_le hS
  by_cases h2 : n = 2
  case neg =>
    have HF : Hid (readK .exc l = none) := Lib.hid (by simp only [readK]; rw [if_neg (by omega)])
    have t1 : ((n : Int) != 2) = true := by simp; omega
    clear hS h2 hl
    go_enter Try.func93, Try.ntmps93
    go_wp2_with fail
    exact bodyPost_ret (v := .tuple #[.agg zeroRC, .bool false]) (results_cell_row_tmp rfl _ _ (w.heap.size + 1) 36 zeroRC (0, 0) _ rfl (at_one w _ _) Try.underlying36 rfl (by kernel_rfl) _ rfl) rfl (readR_none HF.out (below_two w _ _))
  subst h2
  obtain ⟨b, off, rfl, hb, hc⟩ := hS.cells (by omega)
  obtain ⟨x, y, rfl⟩ := ReplyM.two hl
  have h0 := hc 0 x rfl
  have h1 := hc 1 y rfl
  rw [Nat.add_zero] at h0
  have HR : Hid (readK .exc [x, y] = some (wrongN x y)) := Lib.hid rfl
  have HH0 := Lib.hid (And.intro h0 h1)
  clear hS hl hc h0 h1
  have hx := x.toNat_lt
  have hy := y.toNat_lt
  go_enter Try.func93, Try.ntmps93
  go_wp2_with fail
  have HB0 := below_two w (.cells #[] 112) (.cells zeroRC 36)
  have hk0 := (HB0.cell (p := ⟨b, off, none⟩) hb).trans HH0.out.1
  have hk1 := (HB0.cell (p := ⟨b, off + 1, none⟩) hb).trans HH0.out.2
  have hrb : RepBlock ((w.alloc (.cells #[] 112)).alloc (.cells zeroRC 36)) (w.heap.size + 1) := ⟨_, _, _, _, _, _, at_one w _ _⟩
  have hs2 : ((w.alloc (.cells #[] 112)).alloc (.cells zeroRC 36)).heap.size = w.heap.size + 2 := by simp
  generalize (w.alloc (.cells #[] 112)).alloc (.cells zeroRC 36) = W0 at *
  have hz : w.heap.size + 1 < W0.heap.size := by omega
  have hzb : b < W0.heap.size := by omega
  have HBB := Lib.hid HB0
  have HRB : Hid (RepBlock W0.drew (w.heap.size + 1)) := Lib.hid hrb
  clear HB0 hrb hs2 HH0
  have hk0d : W0.drew.cell? ⟨b, off, none⟩ = some (b8 x) := hk0
  have hk1d : W0.drew.cell? ⟨b, off + 1, none⟩ = some (b8 y) := hk1
  have hne : ¬ w.heap.size + 1 = b := by omega
  have hne2 : ¬ b = w.heap.size + 1 := by omega
  go_region_held3 (fun w' => w'.cell? ⟨b, off, none⟩ = some (b8 x) ∧ w'.cell? ⟨b, off + 1, none⟩ = some (b8 y))
    (first
      | with_reducible exact ⟨hk0, hk1⟩
      | with_reducible exact ⟨hk0d, hk1d⟩
      | with_reducible exact ⟨hq0, hq1⟩
      | go_keep)
    (first
      | (go_at_call 22; (with_reducible refine (Wrong_at x y _).mono ?_); rintro e w1 ⟨rfl, hb2⟩; have hq0 := (hb2.cell (p := ⟨b, off, none⟩) hzb).trans hk0d; have hq1 := (hb2.cell (p := ⟨b, off + 1, none⟩) hzb).trans hk1d; have HRB1 := Lib.hid (HRB.out.below hb2 hz); have hz0 := HRB1.out.frozen; obtain ⟨v0, hv0⟩ := HRB1.out.cell 0 (by omega); obtain ⟨v1, hv1⟩ := HRB1.out.cell 1 (by omega); obtain ⟨v2, hv2⟩ := HRB1.out.cell 2 (by omega); obtain ⟨v3, hv3⟩ := HRB1.out.cell 3 (by omega); obtain ⟨v4, hv4⟩ := HRB1.out.cell 4 (by omega); obtain ⟨v5, hv5⟩ := HRB1.out.cell 5 (by omega)))
  have HS := set_end HRB1.out (HBB.out.drew.trans (hb2.mono HBB.out.drew.size)) (by omega) (b8 (x % 128)) (b8 y) (.slice none 0 0) (.slice none 0 0) (.int .u16 0) (.int .u16 0)
  unfold setAll at HS
  have HS2 := Lib.hid HS
  clear HS hk0 hk1 hk0d hk1d hq0 hq1 hz0 hv0 hv1 hv2 hv3 hv4 hv5
  go_wp2_with fail
  exact bodyPost_ret (v := .tuple #[.agg #[b8 (x % 128), b8 y, .slice none 0 0, .slice none 0 0, .int .u16 0, .int .u16 0], .bool true]) (results_cell_row_tmp rfl _ _ (w.heap.size + 1) 36 _ (0, 0) _ rfl HS2.out.1 Try.underlying36 rfl (by kernel_rfl) _ rfl) rfl
    (readR_some (q := wrongN x y) (aw := none) (cw := 0) (ab := none) (cb := 0) HR.out rfl ⟨Sl.none_, Sl.none_⟩ HS2.out.2 (fun y hy => by rcases hy with hy | hy <;> cases hy))
theorem listed_len {l : List UInt8} (h : listedN l = true) : (l.drop 2).length ≤ 255 ∧ 2 ≤ l.length := by
  obtain ⟨x, y, r, rfl, h⟩ := listed_cons h
  have := y.toNat_lt
  simp; omega
set_option maxRecDepth 100000 in
set_option maxHeartbeats 2000000 in
theorem bitsR_read (a : Option Addr) (n c : Nat) (l : List UInt8) (w : World) (hS : Sl b8 w w.heap.size a n c l) :
    Calls Try.prog 96 #[.agg #[], .slice a n c] w (ReadR (readK .bitsR l) w) := by
  have hl := hS.len
  have hn := len_le hS
  have HB0 := below_two w (.cells #[] 113) (.cells zeroRC 36)
  have HLI := Lib.hid (listed_any _ a n c l _ (hS.below HB0 (Nat.le_refl _)))
  cases hli : listedN l
  · have HF : Hid (readK .bitsR l = none) := Lib.hid (by simp only [readK]; rw [if_neg (by simp [hli])])
    have HN := Lib.hid (HLI.out.1 hli)
    clear hS hl hli HLI
    go_enter Try.func96, Try.ntmps96
    go_wp2_with fail
    refine HN.out.mono ?_
    rintro e w1 ⟨rfl, rfl⟩
    go_wp2_with fail
    exact bodyPost_ret (v := .tuple #[.agg zeroRC, .bool false]) (results_cell_row_tmp rfl _ _ (w.heap.size + 1) 36 zeroRC (0, 0) _ rfl (at_one w _ _) Try.underlying36 rfl (by kernel_rfl) _ rfl) rfl (readR_none HF.out (below_two w _ _))
  have HY := Lib.hid (HLI.out.2 hli)
  obtain ⟨hlen, hl2⟩ := listed_len hli
  obtain ⟨b, off, x, rfl, hb, hx, hc⟩ := hS.at_ (k := 0) (by omega)
  rw [Nat.add_zero] at hc
  have hx0 : l.getD 0 0 = x := getD_zero hx
  have HR : Hid (readK .bitsR l = some ⟨x, 0, unpackN (l.drop 2), [], 0, 0⟩) := Lib.hid (by simp only [readK, hx0]; rw [if_pos hli])
  have hk0 := (HB0.cell (p := ⟨b, off, none⟩) hb).trans hc
  have hrb : RepBlock ((w.alloc (.cells #[] 113)).alloc (.cells zeroRC 36)) (w.heap.size + 1) := ⟨_, _, _, _, _, _, at_one w _ _⟩
  have hs2 : ((w.alloc (.cells #[] 113)).alloc (.cells zeroRC 36)).heap.size = w.heap.size + 2 := by simp
  have HX := Lib.hid (And.intro hk0 (And.intro hrb (And.intro HB0 hs2)))
  have hn0 : 0 < n := by omega
  clear hS hx hc hx0 hli HLI hl hl2 hk0 hrb HB0 hs2
  generalize l.drop 2 = r at *
  go_enter Try.func96, Try.ntmps96
  go_wp2_with fail
  refine HY.out.mono ?_
  clear HY
  rintro e w1 ⟨a', c', rfl, hs, rfl⟩
  have HSR := Lib.hid hs
  clear hs
  go_wp2_with fail
  obtain ⟨hk0, hrb, HB0, hs2⟩ := HX.out
  clear HX
  generalize (w.alloc (.cells #[] 113)).alloc (.cells zeroRC 36) = W0 at *
  have hz : w.heap.size + 1 < W0.heap.size := by omega
  have hzb : b < W0.heap.size := by omega
  have HBB := Lib.hid HB0
  have HRB : Hid (RepBlock W0.drew (w.heap.size + 1)) := Lib.hid hrb
  have HUN := Lib.hid (Unpack_any a' r.length c' r W0.drew (show Sl b8 W0.drew W0.drew.heap.size a' r.length c' r from (HSR.out.more (show w.heap.size ≤ W0.heap.size by omega))) (by omega))
  clear HB0 hrb hs2
  have hk0d : W0.drew.cell? ⟨b, off, none⟩ = some (b8 x) := hk0
  have hne : ¬ w.heap.size + 1 = b := by omega
  have hne2 : ¬ b = w.heap.size + 1 := by omega
  go_region_held3 (fun w' => w'.cell? ⟨b, off, none⟩ = some (b8 x))
    (first
      | with_reducible exact hk0
      | with_reducible exact hk0d
      | with_reducible exact hq0
      | go_keep)
    (first
      | (go_at_call 72; (with_reducible refine HUN.out.mono ?_); rintro e w1 ⟨ab2, cb2, rfl, hsu, hb2, hxu⟩; have HSU := Lib.hid hsu; have HXU := Lib.hid hxu; clear hsu hxu; have hq0 := (hb2.cell (p := ⟨b, off, none⟩) hzb).trans hk0d; have HRB1 := Lib.hid (HRB.out.below hb2 hz); have hz0 := HRB1.out.frozen; obtain ⟨v0, hv0⟩ := HRB1.out.cell 0 (by omega); obtain ⟨v1, hv1⟩ := HRB1.out.cell 1 (by omega); obtain ⟨v2, hv2⟩ := HRB1.out.cell 2 (by omega); obtain ⟨v3, hv3⟩ := HRB1.out.cell 3 (by omega); obtain ⟨v4, hv4⟩ := HRB1.out.cell 4 (by omega); obtain ⟨v5, hv5⟩ := HRB1.out.cell 5 (by omega)))
  have HS := set_end HRB1.out (HBB.out.drew.trans (hb2.mono HBB.out.drew.size)) (by omega) (b8 x) (.int .u8 0) (.slice ab2 (unpackN r).length cb2) (.slice none 0 0) (.int .u16 0) (.int .u16 0)
  have HSB := setAll_sl (g := w.heap.size + 1) (f := b8 x) (b := .int .u8 0) (m := .slice ab2 (unpackN r).length cb2) (t := .slice none 0 0) (ws := .int .u16 0) (bs := .int .u16 0) HSU.out (fun y hy => by have := HXU.out y hy; simp at this; omega)
  unfold setAll at HS HSB
  have HS2 := Lib.hid (And.intro HS HSB)
  clear HS HSB hk0 hk0d hq0 hz0 hv0 hv1 hv2 hv3 hv4 hv5
  go_wp2_with fail
  exact bodyPost_ret (v := .tuple #[.agg #[b8 x, .int .u8 0, .slice ab2 (unpackN r).length cb2, .slice none 0 0, .int .u16 0, .int .u16 0], .bool true]) (results_cell_row_tmp rfl _ _ (w.heap.size + 1) 36 _ (0, 0) _ rfl HS2.out.1.1 Try.underlying36 rfl (by kernel_rfl) _ rfl) rfl
    (readR_some (q := ⟨x, 0, unpackN r, [], 0, 0⟩) (aw := none) (cw := 0) (ab := ab2) (cb := cb2) HR.out rfl ⟨Sl.none_, HS2.out.2⟩ HS2.out.1.2 (fun y hy => by rcases hy with hy | hy <;> first | (cases hy; done) | (have := HXU.out y hy; simp at this; omega)))
end Go.Proofs.Ytamdpinfbadflaa.ReplyW
