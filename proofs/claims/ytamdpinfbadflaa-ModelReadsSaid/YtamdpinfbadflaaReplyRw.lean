/- What replies with words read. -/
import Derived.Test.YtamdpinfbadflaaReplyRe
import Derived.Test.YtamdpinfbadflaaAskNums
open Go.RowKit
namespace Go.Proofs.Ytamdpinfbadflaa.ReplyW
open AskM ReplyM AskW Mem

set_option maxRecDepth 100000 in
set_option maxHeartbeats 4000000 in
theorem wordsR_read (a : Option Addr) (n c : Nat) (l : List UInt8) (w : World) (hS : Sl b8 w w.heap.size a n c l) :
    Calls Try.prog 101 #[.agg #[], .slice a n c] w (ReadR (readK .wordsR l) w) := by
  have hl := hS.len
  have hn := len_le hS
  have HB0 := below_two w (.cells #[] 114) (.cells zeroRC 36)
  have HLI := Lib.hid (listed_any _ a n c l _ (hS.below HB0 (Nat.le_refl _)))
  cases hli : listedN l
  · have HF : Hid (readK .wordsR l = none) := Lib.hid (by simp only [readK]; rw [if_neg (by simp [hli])])
    have HN := Lib.hid (HLI.out.1 hli)
    clear hS hl hli HLI
    go_enter Try.func101, Try.ntmps101
    go_wp2_with fail
    refine HN.out.mono ?_
    rintro e w1 ⟨rfl, rfl⟩
    go_wp2_with fail
    exact bodyPost_ret (v := .tuple #[.agg zeroRC, .bool false]) (results_cell_row_tmp rfl _ _ (w.heap.size + 1) 36 zeroRC (0, 0) _ rfl (at_one w _ _) Try.underlying36 rfl (by kernel_rfl) _ rfl) rfl (readR_none HF.out (below_two w _ _))
  have HY := Lib.hid (HLI.out.2 hli)
  obtain ⟨hlen, hl2⟩ := listed_len hli
  obtain ⟨b, off, x, rfl, hb, hx, hc⟩ := hS.at_ (k := 0) (by omega)
  rw [Nat.add_zero] at hc
  have hx0 : l.getD 0 0 = x := getD_zero hx
  have hd : l.length - 2 = (l.drop 2).length := by simp
  have HR : Hid (readK .wordsR l = if (l.drop 2).length % 2 = 0 then some ⟨x, 0, [], numsN (l.drop 2), 0, 0⟩ else none) := Lib.hid (by
    simp only [readK, hx0, hd]
    by_cases h : (l.drop 2).length % 2 = 0
    · rw [if_pos ⟨hli, h⟩, if_pos h]
    · rw [if_neg (fun h2 => h h2.2), if_neg h])
  have hk0 := (HB0.cell (p := ⟨b, off, none⟩) hb).trans hc
  have hrb : RepBlock ((w.alloc (.cells #[] 114)).alloc (.cells zeroRC 36)) (w.heap.size + 1) := ⟨_, _, _, _, _, _, at_one w _ _⟩
  have hs2 : ((w.alloc (.cells #[] 114)).alloc (.cells zeroRC 36)).heap.size = w.heap.size + 1 + 1 := by simp
  have HX := Lib.hid (And.intro hk0 (And.intro hrb (And.intro HB0 hs2)))
  have hn0 : 0 < n := by omega
  clear hS hx hc hx0 hli HLI hl hl2 hk0 hrb HB0 hs2 hd
  generalize l.drop 2 = r at *
  by_cases hev : r.length % 2 = 0
  case neg =>
    have HF : Hid (readK .wordsR l = none) := Lib.hid (by rw [HR.out, if_neg hev])
    have t1 : ((r.length : Int) % 2 != 0) = true := by simp; omega
    clear hev HR HX
    go_enter Try.func101, Try.ntmps101
    go_wp2_with fail
    refine HY.out.mono ?_
    rintro e w1 ⟨a', c', rfl, hs, rfl⟩
    clear hs HY
    go_wp2_with fail
    exact bodyPost_ret (v := .tuple #[.agg zeroRC, .bool false]) (results_cell_row_tmp rfl _ _ (w.heap.size + 1) 36 zeroRC (0, 0) _ rfl (at_one w _ _) Try.underlying36 rfl (by kernel_rfl) _ rfl) rfl (readR_none HF.out (below_two w _ _))
  have t1 : ((r.length : Int) % 2 != 0) = false := by simp; omega
  have HR2 : Hid (readK .wordsR l = some ⟨x, 0, [], numsN r, 0, 0⟩) := Lib.hid (by rw [HR.out, if_pos hev])
  have HEV := Lib.hid hev
  obtain ⟨i0, hi0, hz0, hz1, hz2⟩ := info_parts info16
  have HI := Lib.hid (And.intro hi0 (And.intro hz0 (And.intro hz1 hz2)))
  clear hev HR hi0 hz0 hz1 hz2
  go_enter Try.func101, Try.ntmps101
  go_wp2_with fail
  refine HY.out.mono ?_
  rintro e w1 ⟨a', c', rfl, hs, rfl⟩
  have HSR := Lib.hid hs
  have hrl : r.length ≤ c' := hs.nle
  clear hs HY
  go_wp2_with (refine wpList_make_row rfl (.tmp 26) (.tmp 26) 26 rfl 29 i0 (.int .u16 0) 2 Try.underlying26 HI.out.1 HI.out.2.1 HI.out.2.2.1 HI.out.2.2.2 rfl .i64 .i64 _ _ (r.length / 2) (r.length / 2) rfl rfl ?c1 ?c2 (Nat.le_refl _) ?c3 ?c4 ?_)
  case c1 => omega
  case c2 => omega
  case c3 => omega
  case c4 => omega
  intro w2 h1 hb1 hs1
  obtain ⟨hk0, hrb, HB0, hs2⟩ := HX.out
  clear HX
  generalize (w.alloc (.cells #[] 114)).alloc (.cells zeroRC 36) = W0 at *
  have hr := h1.out
  rw [numsTo_zero r] at hr
  have HRW := Lib.hid hr
  have HBW := Lib.hid hb1
  have HZ := Lib.hid (And.intro hs2 (And.intro hk0 (And.intro hrb HB0)))
  clear hr h1 hb1 hs1 hs2 hk0 hrb HB0 HI
  have HM : Hid (r.length / 2 = r.length / 2) := rfl
  go_wp2
  go_loopw [9, 30] (fun _ i wr => ∃ k : Nat, k ≤ r.length / 2 ∧ i = .int .i64 (k : Int) ∧ Below (w.heap.size + 1 + 1) W0 wr ∧ wr.heap[w.heap.size + 1 + 1]? = some (.cells (numsTo r (r.length / 2) k) 29 (0, 0))) (fun _ i _ => r.length / 2 - (intOf i).toNat)
  case atStart => exact ⟨0, by omega, rfl, HBW.out, HRW.out⟩
  case round =>
    obtain ⟨k, hk, rfl, hb2, hg⟩ := hrel
    clear HRW HBW
    by_cases hlt : k < r.length / 2
    · have ht : decide ((k : Int) < (r.length : Int) / 2) = true := by simp; omega
      have hcell := (cell_of_row _ _ k _ _ _ hg).trans (numsTo_at r hlt).choose_spec
      have hfz := frozen_of_row _ _ k _ _ hg
      have hst := heap_setCell_same _ _ k _ _ (b16 (at16 (r.drop (2 * k)) 0)) hg
      rw [numsTo_next r (by omega)] at hst
      have hf := (HSR.out.from_ (k := 2 * k) (by omega)).below (B' := w.heap.size + 1 + 1) hb2 (by omega)
      rw [if_neg (by omega)] at hf
      obtain ⟨b', off', rfl, hb', -⟩ := HSR.out.cells (by omega)
      have hf2 : Sl b8 wr w.heap.size (some ⟨b', off' + 2 * k, none⟩) (r.length - 2 * k) (c' - 2 * k) (r.drop (2 * k)) := by
        by_cases h0 : k = 0
        · subst h0; simpa [Addr.add] using hf
        · have h2k : ¬ 2 * k = 0 := by omega
          simpa [Addr.add, h2k] using hf
      have hN := number_any _ _ _ _ _ wr hf2 (by omega)
      have HN := Lib.hid hN
      have HST := Lib.hid hst
      have HB2 := Lib.hid hb2
      have hck : ¬ c' = 2 * k := by omega
      clear hg hst hf hf2 hN hb2
      go_wp2_with fail
      refine HN.out.mono ?_
      rintro e w3 ⟨rfl, q, rfl⟩
      clear HN
      generalize at16 (r.drop (2 * k)) 0 = z at *
      have hcell2 : (wr.drewN q).cell? ⟨w.heap.size + 1 + 1, k, none⟩ = _ := hcell
      have hfz2 : (wr.drewN q).frozen? ⟨w.heap.size + 1 + 1, k, none⟩ = _ := hfz
      have HB3 := Lib.hid (below_drawn HB2.out q)
      clear hcell hfz
      go_wp2_with fail
      go_roundw
      case rel => exact ⟨k + 1, by omega, by go_num, HB3.out.setCell (Nat.le_refl _) _, HST.out⟩
      case measure => simp [intOf]; omega
    · obtain rfl : k = r.length / 2 := by omega
      have ht : decide ((((r.length / 2 : Nat) : Int)) < (r.length : Int) / 2) = false := by simp
      rw [numsTo_done] at hg
      obtain ⟨hs2, hk0, hrb, HB0⟩ := HZ.out
      have hz : w.heap.size + 1 < W0.heap.size := by omega
      have hq0 : wr.cell? ⟨b, off, none⟩ = some (b8 x) := (hb2.cell (p := ⟨b, off, none⟩) (by simp only; omega)).trans hk0
      have HRB1 := Lib.hid (hrb.below hb2 (by omega))
      have hz0 := HRB1.out.frozen
      obtain ⟨v0, hv0⟩ := HRB1.out.cell 0 (by omega)
      obtain ⟨v1, hv1⟩ := HRB1.out.cell 1 (by omega)
      obtain ⟨v2, hv2⟩ := HRB1.out.cell 2 (by omega)
      obtain ⟨v3, hv3⟩ := HRB1.out.cell 3 (by omega)
      obtain ⟨v4, hv4⟩ := HRB1.out.cell 4 (by omega)
      obtain ⟨v5, hv5⟩ := HRB1.out.cell 5 (by omega)
      have hnl : (numsN r).length = r.length / 2 := length_numsN r
      have hsl := sl_of_row (f := b16) (l := numsN r) hg (by simp) (n := r.length / 2) hnl (by omega)
      have HS := set_end HRB1.out (HB0.trans (hb2.mono (by omega))) (by omega) (b8 x) (.int .u8 0) (.slice none 0 0) (.slice (some ⟨w.heap.size + 1 + 1, 0, none⟩) (r.length / 2) (r.length / 2)) (.int .u16 0) (.int .u16 0)
      have HSB := setAll_sl (g := w.heap.size + 1) (f := b8 x) (b := .int .u8 0) (m := .slice none 0 0) (t := .slice (some ⟨w.heap.size + 1 + 1, 0, none⟩) (r.length / 2) (r.length / 2)) (ws := .int .u16 0) (bs := .int .u16 0) hsl (fun y hy => by injection hy with hy; subst hy; simp)
      unfold setAll at HS HSB
      have HS2 := Lib.hid (And.intro HS (And.intro HSB hnl))
      clear HS HSB hk0 hsl hg hnl hrb HB0 hs2 hb2
      go_wp2_with fail
      have H0 := readR_some (q := ⟨x, 0, [], numsN r, 0, 0⟩) (ab := none) (cb := 0) (aw := some ⟨w.heap.size + 1 + 1, 0, none⟩) (cw := r.length / 2) HR2.out (v := .agg #[b8 x, .int .u8 0, .slice none 0 0, .slice (some ⟨w.heap.size + 1 + 1, 0, none⟩) (r.length / 2) (r.length / 2), .int .u16 0, .int .u16 0]) (by show _ = Value.agg #[_, _, _, .slice _ (numsN r).length _, _, _]; rw [HS2.out.2.2]; rfl) ⟨by show Sl b16 _ _ _ (numsN r).length _ _; rw [HS2.out.2.2]; exact HS2.out.2.1, Sl.none_⟩ HS2.out.1.2 (fun y hy => by rcases hy with hy | hy <;> first | (cases hy; done) | (injection hy with hy; subst hy; simp; omega))
      exact bodyPost_ret (v := .tuple #[.agg #[b8 x, .int .u8 0, .slice none 0 0, .slice (some ⟨w.heap.size + 1 + 1, 0, none⟩) (r.length / 2) (r.length / 2), .int .u16 0, .int .u16 0], .bool true]) (results_cell_row_tmp rfl _ _ (w.heap.size + 1) 36 _ (0, 0) _ rfl HS2.out.1.1 Try.underlying36 rfl (by kernel_rfl) _ rfl) rfl H0
end Go.Proofs.Ytamdpinfbadflaa.ReplyW
