/- The document's own reading of a reply: Parse. -/
import Derived.Test.YtenfcpdoingdeaaRefRReq
import Derived.Test.YtenfcpdoingdeaaRefParseN
import Derived.Test.YtenfcpdoingdeaaRefBytes3
import Derived.Test.YtenfcpdoingdeaaReplyParse
import Derived.Deep.RegionHeld3
import Derived.Deep.RegionLaw
open Go.RowKit
namespace Go.Proofs.Ytenfcpdoingdeaa.RefW
open AskM AskW ReplyM ReplyW Mem

/-- While bytes are parsed: the answer's cell, still empty, and the reply. -/
structure RBR (w W : World) (gq : Nat) (q : Array Value) : Prop where
  below : Below w.heap.size w W
  zero : W.heap[w.heap.size]? = some (.cells zeroRC 45 (0, 0))
  req : W.heap[gq]? = some (.cells q 45 (0, 0))
  lt : w.heap.size < gq
section
variable {w W W' : World} {gq : Nat} {q : Array Value}
theorem RBR.on (h : RBR w W gq q) (hb : Below W.heap.size W W') : RBR w W' gq q := by
  have lt : ∀ {g : Nat} {o : Obj}, W.heap[g]? = some o → g < W.heap.size := fun h => (Array.getElem?_eq_some_iff.1 h).1
  exact ⟨h.below.trans (hb.mono h.below.size), (hb.block _ (lt h.zero)).trans h.zero, (hb.block _ (lt h.req)).trans h.req, h.lt⟩
theorem RBR.c (h : RBR w W gq q) (o : Nat) : W.cell? ⟨gq, o, none⟩ = q[o]? := cell_of_row _ _ _ _ _ _ h.req
theorem RBR.z (h : RBR w W gq q) (o : Nat) : W.frozen? ⟨gq, o, none⟩ = false := frozen_of_row _ _ _ _ _ h.req
theorem RBR.glt (h : RBR w W gq q) : gq < W.heap.size := (Array.getElem?_eq_some_iff.1 h.req).1
theorem RBR.set (h : RBR w W gq q) (o : Nat) (v : Value) : RBR w (W.setCell ⟨gq, o, none⟩ v) gq (q.setIfInBounds o v) :=
  ⟨h.below.setCell (Nat.le_of_lt h.lt) _, (heap_setCell_other _ _ _ _ (by have := h.lt; simp; omega)).trans h.zero, heap_setCell_same _ _ _ _ _ _ h.req, h.lt⟩
end
theorem RBR.grewQ {w W w5 : World} {gq j k : Nat} {q : Array Value} {e : TypeId} {v v5 : Value} {xs : List Value} {O : Obj} (h : RBR w W gq q) (ho : W.ownsRow (gq + 1) e 1 v k xs) (hg : Grew ((W.drewN j).alloc O) v w5 v5) : RBR w w5 gq q := by
  have hlo : ∀ z, v.ownBlock = some z → gq + 1 ≤ z := fun z hz => (ho.lt z hz).1
  have hgl := h.glt
  have hl := h.lt
  have hblk : ∀ z, z ≤ gq → w5.heap[z]? = W.heap[z]? := fun z hz =>
    (hg.grown.block z (by rw [World.size_alloc]; show z < W.heap.size + 1; omega) (fun h => by have := hlo z h.symm; omega)).trans (Below.heap_alloc (W.drewN j) O z (by show z < W.heap.size; omega))
  exact ⟨Grew.below ((below_drawn h.below j).alloc (by have := h.below.size; exact this) O) hg (by rw [World.size_alloc]; have := h.below.size; show w.heap.size ≤ W.heap.size + 1; omega) (fun z hz => by have := hlo z hz; omega), (hblk _ (by omega)).trans h.zero, (hblk _ (Nat.le_refl _)).trans h.req, h.lt⟩
/-- The reply that is asked, whole. -/
structure RQR (w W : World) (q : Rep) (aw : Option Addr) (cw : Nat) (ab : Option Addr) (cb : Nat) : Prop where
  box : RBR w W (w.heap.size + 1) #[b8 q.fn, b8 q.ex, .slice ab q.bits.length cb, .slice aw q.words.length cw, b16 q.at_, b16 q.many]
  at_ : RepAt W W.heap.size q aw cw ab cb
  up : ∀ x : Addr, aw = some x ∨ ab = some x → w.heap.size < x.block
  few : q.words.length ≤ 1000000 ∧ q.bits.length ≤ 1000000
theorem RQR.on {w W W' : World} {q : Rep} {aw ab : Option Addr} {cw cb : Nat} (h : RQR w W q aw cw ab cb) (hb : Below W.heap.size W W') : RQR w W' q aw cw ab cb :=
  ⟨h.box.on hb, ⟨(h.at_.words.below hb (Nat.le_refl _)).more hb.size, (h.at_.bits.below hb (Nat.le_refl _)).more hb.size⟩, h.up, h.few⟩
set_option maxRecDepth 100000 in
set_option maxHeartbeats 40000000 in
theorem rRParse_any (a : Option Addr) (n c : Nat) (l : List UInt8) (w : World) (hS : Sl b8 w w.heap.size a n c l) (hm : n ≤ 100000) :
    Calls Try.prog 28 #[.slice a n c] w (RParsed (rparseN l) w) := by
  have hn := len_le hS
  have hl := hS.len
  have hB0 := fun o => (Below.refl w.heap.size w).alloc (Nat.le_refl _) o
  have HZ : Hid ((w.alloc (.cells zeroRC 45)).heap[w.heap.size]? = some (.cells zeroRC 45 (0, 0))) := Lib.hid (heap_alloc_new w _)
  by_cases h2 : n < 2
  · have HP := Lib.hid (rparse_short (l := l) (by omega))
    have t1 : decide ((n : Int) < 2) = true := by simp; omega
    clear hl h2
    go_enter Try.func28, Try.ntmps28
    go_wp2_with (refine wpList_store_row rfl 45 (.tmp 2) (.tmp 11) rfl w.heap.size zeroRC rfl rfl 45 zeroRC HZ.out (by kernel_rfl) (by kernel_rfl) (by kernel_rfl) ?_)
    exact bodyPost_ret (v := .tuple #[.agg zeroRC, .int .i64 13]) (results_cell_row_tmp rfl _ _ w.heap.size 45 zeroRC (0, 0) _ rfl (setRow_heap _ _ _ _ _ _ HZ.out) Try.underlying45 rfl (by kernel_rfl) _ rfl) rfl (rparsed_none HP.out (below_setRow (hB0 _) (Nat.le_refl _) _))
  · have t1 : decide ((n : Int) < 2) = false := by simp; omega
    obtain ⟨bb, off, rfl, hbb, hc⟩ := hS.cells (by omega)
    have hx0 := hc 0 (l.getD 0 0) (by rw [List.getElem?_eq_getElem (by omega)]; simp [List.getD, List.getElem?_eq_getElem (show 0 < l.length by omega)])
    have hx1 := hc 1 (l.getD 1 0) (by rw [List.getElem?_eq_getElem (by omega)]; simp [List.getD, List.getElem?_eq_getElem (show 1 < l.length by omega)])
    rw [Nat.add_zero] at hx0
    have HCP := Lib.hid (candR_parse l)
    have HCD : Hid (candR l = (if 128 ≤ (l.getD 0 0).toNat then ⟨l.getD 0 0 - 128, l.getD 1 0, [], [], 0, 0⟩
      else if (l.getD 0 0).toNat = 1 ∨ (l.getD 0 0).toNat = 2 then ⟨l.getD 0 0, 0, unpackN (l.drop 2), [], 0, 0⟩
      else if (l.getD 0 0).toNat = 3 ∨ (l.getD 0 0).toNat = 4 ∨ (l.getD 0 0).toNat = 23 then ⟨l.getD 0 0, 0, [], numsN (l.drop 2), 0, 0⟩
      else if (l.getD 0 0).toNat = 5 then ⟨l.getD 0 0, 0, [decide (at16 l 3 = 65280)], [], at16 l 1, 0⟩
      else if (l.getD 0 0).toNat = 6 then ⟨l.getD 0 0, 0, [], [at16 l 3], at16 l 1, 0⟩
      else if (l.getD 0 0).toNat = 15 ∨ (l.getD 0 0).toNat = 16 then ⟨l.getD 0 0, 0, [], [], at16 l 1, at16 l 3⟩
      else (⟨l.getD 0 0, 0, [], [], 0, 0⟩ : Rep))) := Lib.hid rfl
    generalize candR l = cand at *
    generalize l.getD 0 0 = f0 at *
    generalize l.getD 1 0 = x1 at *
    have hwr1 : IntKind.u16.wrap ((at16 l 1).toNat : Int) = ((at16 l 1).toNat : Int) := IntWalk.u16_in _ (by have := (at16 l 1).toNat_lt; omega)
    have hwr3 : IntKind.u16.wrap ((at16 l 3).toNat : Int) = ((at16 l 3).toNat : Int) := IntWalk.u16_in _ (by have := (at16 l 3).toNat_lt; omega)
    have i0' : (0 : Int) < (n : Int) := by omega
    have i1' : (1 : Int) < (n : Int) := by omega
    have hpos : 0 < n := by omega
    have hl2 : 2 ≤ n := by omega
    have hf8 := f0.toNat_lt
    have HLN := Lib.hid hl
    have HS0 := Lib.hid hS
    have hW1 : (w.alloc (.cells zeroRC 45)).heap.size = w.heap.size + 1 := by simp
    have HB1 := Lib.hid (hB0 (.cells zeroRC 45))
    have y0 := (HB1.out.cell (p := ⟨bb, off, none⟩) hbb).trans hx0
    have HRB : Hid (RBR w ((w.alloc (.cells zeroRC 45)).alloc (.cells #[.int .u8 (f0.toNat : Int), .int .u8 0, .slice none 0 0, .slice none 0 0, .int .u16 0, .int .u16 0] 45)) (w.heap.size + 1) #[.int .u8 (f0.toNat : Int), .int .u8 0, .slice none 0 0, .slice none 0 0, .int .u16 0, .int .u16 0]) := Lib.hid
      ⟨HB1.out.alloc (by simp) _, (Below.heap_alloc _ _ w.heap.size (by simp)).trans HZ.out, by rw [← hW1]; exact heap_alloc_new _ _, by omega⟩
    have yy0 := (HRB.out.below.cell (p := ⟨bb, off, none⟩) hbb).trans hx0
    have yy1 := (HRB.out.below.cell (p := ⟨bb, off + 1, none⟩) hbb).trans hx1
    have hbg : ¬ bb = w.heap.size + 1 := by omega
    have hbg2 : ¬ w.heap.size + 1 = bb := by omega
    have HC0 := Lib.hid (And.intro hx0 hx1)
    have hv := fun o => HRB.out.c o
    have hz := fun o => HRB.out.z o
    clear hc hx0 hx1 hS hB0 hl h2
    by_cases c128 : 128 ≤ f0.toNat
    · have e127 : decide ((127 : Int) < (f0.toNat : Int)) = true := by simp; omega
      have e1 : ((f0.toNat : Int) == 1) = false := by simp; omega
      have e2 : ((f0.toNat : Int) == 2) = false := by simp; omega
      have e3 : ((f0.toNat : Int) == 3) = false := by simp; omega
      have e4 : ((f0.toNat : Int) == 4) = false := by simp; omega
      have e23 : ((f0.toNat : Int) == 23) = false := by simp; omega
      have e5 : ((f0.toNat : Int) == 5) = false := by simp; omega
      have e6 : ((f0.toNat : Int) == 6) = false := by simp; omega
      have e15 : ((f0.toNat : Int) == 15) = false := by simp; omega
      have e16 : ((f0.toNat : Int) == 16) = false := by simp; omega
      have hcand : cand = ⟨f0 - 128, x1, [], [], 0, 0⟩ := by rw [HCD.out, if_pos c128]
      have hs128 : ((f0 - 128).toNat : Int) = (f0.toNat : Int) - 128 := by
        rw [UInt8.toNat_sub]
        show (((256 - 128 + f0.toNat) % 256 : Nat) : Int) = _
        omega
      have HE := Lib.hid hcand
      have HS128 := Lib.hid hs128
      clear hcand HCD hs128
      go_enter Try.func28, Try.ntmps28
      go_upto_region 5 with fail
      generalize (w.alloc (.cells zeroRC 45)).alloc (.cells #[.int .u8 (f0.toNat : Int), .int .u8 0, .slice none 0 0, .slice none 0 0, .int .u16 0, .int .u16 0] 45) = W2 at *
      have hg0 := (HRB.out.set 0 (.int .u8 ((f0.toNat : Int) - 128))).z 1
      have hg1 := (HRB.out.set 0 (.int .u8 ((f0.toNat : Int) - 128))).c 1
      have HR2 := Lib.hid ((HRB.out.set 0 (.int .u8 ((f0.toNat : Int) - 128))).set 1 (b8 x1))
      have yz0 := (HR2.out.below.cell (p := ⟨bb, off, none⟩) hbb).trans HC0.out.1
      have yz1 := ((HRB.out.set 0 (.int .u8 ((f0.toNat : Int) - 128))).below.cell (p := ⟨bb, off + 1, none⟩) hbb).trans HC0.out.2
      have HQ : Hid (RQR w ((W2.setCell ⟨w.heap.size + 1, 0, none⟩ (.int .u8 ((f0.toNat : Int) - 128))).setCell ⟨w.heap.size + 1, 1, none⟩ (b8 x1)) cand none 0 none 0) := Lib.hid (by
        rw [HE.out]
        refine ⟨?_, ⟨Sl.none_, Sl.none_⟩, fun x hx => (by rcases hx with hx | hx <;> cases hx), by simp⟩
        have h := HR2.out
        rw [← HS128.out] at h ⊢
        exact h)
      clear HE HRB HR2
      go_upto_region 28 with fail
      clear hv hz hg0 hg1 yz0 yz1 yy0 yy1 y0
      generalize (W2.setCell ⟨w.heap.size + 1, 0, none⟩ (.int .u8 ((f0.toNat : Int) - 128))).setCell ⟨w.heap.size + 1, 1, none⟩ (b8 x1) = W3 at *
      have HFEW := HQ.out.few
      have HBY := Lib.hid (rRBytes_any cand none 0 none 0 W3 HQ.out.at_ HFEW.1 HFEW.2)
      obtain ⟨qf, qe, bs, ws, qa, qm⟩ := cand
      simp only at HFEW
      have hx := fun o => HQ.out.box.c o
      go_wp2_with fail
      clear hx
      rcases HCP.out with ⟨h1, h2⟩ | ⟨h1, h2⟩
      · rw [h2] at HBY
        refine HBY.out.mono ?_
        rintro e w4 ⟨a9, c9, rfl, hs4, hb4, -⟩
        have HR4 := Lib.hid (HQ.out.on hb4)
        have tx1 := hs4.text (P := Try.prog) Try.underlying27 Try.underlying5 Try.underlying9
        have tx2 := (HS0.out.below HR4.out.box.below (Nat.le_refl _)).text (P := Try.prog) Try.underlying27 Try.underlying5 Try.underlying9
        have hse : ((str l).toList == (str l).toList) = true := by simp
        have hx := fun o => HR4.out.box.c o
        have H1 := Lib.hid h1
        clear hs4 hb4 HBY h1 h2 HCP HQ
        go_wp2_with (refine wpList_store_row rfl 45 (.tmp 2) (.tmp 107) rfl w.heap.size #[b8 qf, b8 qe, .slice none bs.length 0, .slice none ws.length 0, b16 qa, b16 qm] rfl rfl 45 zeroRC HR4.out.box.zero (by kernel_rfl) (by kernel_rfl) (by kernel_rfl) ?_)
        exact bodyPost_ret (v := .tuple #[repV ⟨qf, qe, bs, ws, qa, qm⟩ none 0 none 0, .int .i64 0]) (results_cell_row_tmp rfl _ _ w.heap.size 45 _ (0, 0) _ rfl (setRow_heap _ _ _ _ _ _ HR4.out.box.zero) Try.underlying45 rfl (by kernel_rfl) _ rfl) rfl (rparsed_some H1.out ⟨sl_row HR4.out.at_.words (fun x hx => HR4.out.up x (.inl hx)) _, sl_row HR4.out.at_.bits (fun x hx => HR4.out.up x (.inr hx)) _⟩ (below_setRow HR4.out.box.below (Nat.le_refl _) _) (fun x hx => Nat.le_of_lt (HR4.out.up x hx)))
      · have H1 := Lib.hid h1
        cases hbn : rbytesN ⟨qf, qe, bs, ws, qa, qm⟩ with
        | none =>
          rw [hbn] at HBY
          clear h1 h2 HCP hbn
          refine HBY.out.mono ?_
          rintro e w4 ⟨rfl, hb4⟩
          have HR4 := Lib.hid (HQ.out.box.on hb4)
          clear hb4 HBY HQ
          go_wp2_with (refine wpList_store_row rfl 45 (.tmp 2) (.tmp 106) rfl w.heap.size zeroRC rfl rfl 45 zeroRC HR4.out.zero (by kernel_rfl) (by kernel_rfl) (by kernel_rfl) ?_)
          exact bodyPost_ret (v := .tuple #[.agg zeroRC, .int .i64 13]) (results_cell_row_tmp rfl _ _ w.heap.size 45 zeroRC (0, 0) _ rfl (setRow_heap _ _ _ _ _ _ HR4.out.zero) Try.underlying45 rfl (by kernel_rfl) _ rfl) rfl (rparsed_none H1.out (below_setRow HR4.out.below (Nat.le_refl _) _))
        | some l2 =>
          have hne : l2 ≠ l := fun h => h2 (by rw [hbn, h])
          have hse : ((str l2).toList == (str l).toList) = false := by
            rw [beq_eq_false_iff_ne]
            intro h
            apply hne
            have h3 : (str l2).toList = (str l).toList := h
            simpa [str] using h3
          rw [hbn] at HBY
          clear h1 h2 HCP hbn hne
          refine HBY.out.mono ?_
          rintro e w4 ⟨a9, c9, rfl, hs4, hb4, -⟩
          have HR4 := Lib.hid (HQ.out.box.on hb4)
          have tx1 := hs4.text (P := Try.prog) Try.underlying27 Try.underlying5 Try.underlying9
          have tx2 := (HS0.out.below HR4.out.below (Nat.le_refl _)).text (P := Try.prog) Try.underlying27 Try.underlying5 Try.underlying9
          clear hs4 hb4 HBY HQ
          go_wp2_with (refine wpList_store_row rfl 45 (.tmp 2) (.tmp 106) rfl w.heap.size zeroRC rfl rfl 45 zeroRC HR4.out.zero (by kernel_rfl) (by kernel_rfl) (by kernel_rfl) ?_)
          exact bodyPost_ret (v := .tuple #[.agg zeroRC, .int .i64 13]) (results_cell_row_tmp rfl _ _ w.heap.size 45 zeroRC (0, 0) _ rfl (setRow_heap _ _ _ _ _ _ HR4.out.zero) Try.underlying45 rfl (by kernel_rfl) _ rfl) rfl (rparsed_none H1.out (below_setRow HR4.out.below (Nat.le_refl _) _))
    by_cases c1 : f0.toNat = 1
    · have e127 : decide ((127 : Int) < (f0.toNat : Int)) = false := by simp; omega
      have e1 : ((f0.toNat : Int) == 1) = true := by simp; omega
      have e2 : ((f0.toNat : Int) == 2) = false := by simp; omega
      have e3 : ((f0.toNat : Int) == 3) = false := by simp; omega
      have e4 : ((f0.toNat : Int) == 4) = false := by simp; omega
      have e23 : ((f0.toNat : Int) == 23) = false := by simp; omega
      have e5 : ((f0.toNat : Int) == 5) = false := by simp; omega
      have e6 : ((f0.toNat : Int) == 6) = false := by simp; omega
      have e15 : ((f0.toNat : Int) == 15) = false := by simp; omega
      have e16 : ((f0.toNat : Int) == 16) = false := by simp; omega
      have hcand : cand = ⟨f0, 0, unpackN (l.drop 2), [], 0, 0⟩ := by rw [HCD.out]; simp [c1]
      have HE := Lib.hid hcand
      clear hcand HCD c128 c1
      have HSW := Lib.hid ((HS0.out.below HRB.out.below (Nat.le_refl _)).more HRB.out.below.size)
      by_cases hc2 : c = 2
      · have HSD := Lib.hid (HSW.out.from_ (k := 2) hl2)
        have hnn : n = 2 := by have := HS0.out.nle; omega
        subst hc2 hnn
        rw [if_pos rfl] at HSD
        clear HSW
        have HUN := Lib.hid (show Calls Try.prog 23 #[.slice (some ⟨bb, off, none⟩) 0 0] ((w.alloc (.cells zeroRC 45)).alloc (.cells #[.int .u8 (f0.toNat : Int), .int .u8 0, .slice none 0 0, .slice none 0 0, .int .u16 0, .int .u16 0] 45)) (Fresh Value.bool (unpackN (l.drop 2)) _) from rUnpack_any _ _ _ _ _ HSD.out (by omega))
        have hul : (unpackN (l.drop 2)).length ≤ 800000 := by rw [length_unpackN, List.length_drop, HLN.out]; omega
        generalize unpackN (l.drop 2) = ul at *
        go_enter Try.func28, Try.ntmps28
        go_wp2_with fail
        generalize (w.alloc (.cells zeroRC 45)).alloc (.cells #[.int .u8 (f0.toNat : Int), .int .u8 0, .slice none 0 0, .slice none 0 0, .int .u16 0, .int .u16 0] 45) = W2 at *
        refine HUN.out.mono ?_
        rintro e W4 ⟨a4, c4, rfl, hs4, hb4, hx4⟩
        have HR4 := Lib.hid (HRB.out.on hb4)
        have hw0 := HR4.out.c 2
        have hwz := HR4.out.z 2
        have HQ : Hid (RQR w (W4.setCell ⟨w.heap.size + 1, 2, none⟩ (.slice a4 ul.length c4)) cand none 0 a4 c4) := Lib.hid (by
          rw [HE.out]
          refine ⟨HR4.out.set 2 _, ⟨Sl.none_, ?_⟩, fun x hx => ?_, by simp, by simp only; omega⟩
          · have h := hs4.set (g := w.heap.size + 1) (i := 2) (v := .slice a4 ul.length c4) (fun x hx => by have := hx4 x hx; have := HRB.out.glt; omega)
            rw [World.size_setCell]
            exact h
          · rcases hx with hx | hx
            · cases hx
            · have := hx4 x hx; have := HRB.out.glt; have := HRB.out.lt; omega)
        have hxx0 := (HR4.out.set 2 (.slice a4 ul.length c4)).c 0
        clear hs4 hb4 hx4 HUN HE hv hz yy0 yy1 y0 HSD
        go_upto_region 28 with fail
        clear hw0 hwz hxx0 HR4 HRB
        generalize W4.setCell ⟨w.heap.size + 1, 2, none⟩ (.slice a4 ul.length c4) = W3 at *
        have HFEW := HQ.out.few
        have HBY := Lib.hid (rRBytes_any cand none 0 a4 c4 W3 HQ.out.at_ HFEW.1 HFEW.2)
        obtain ⟨qf, qe, bs, ws, qa, qm⟩ := cand
        simp only at HFEW
        have hx := fun o => HQ.out.box.c o
        go_wp2_with fail
        clear hx
        rcases HCP.out with ⟨h1, h2⟩ | ⟨h1, h2⟩
        · rw [h2] at HBY
          refine HBY.out.mono ?_
          rintro e w4 ⟨a9, c9, rfl, hs4, hb4, -⟩
          have HR4 := Lib.hid (HQ.out.on hb4)
          have tx1 := hs4.text (P := Try.prog) Try.underlying27 Try.underlying5 Try.underlying9
          have tx2 := (HS0.out.below HR4.out.box.below (Nat.le_refl _)).text (P := Try.prog) Try.underlying27 Try.underlying5 Try.underlying9
          have hse : ((str l).toList == (str l).toList) = true := by simp
          have hx := fun o => HR4.out.box.c o
          have H1 := Lib.hid h1
          clear hs4 hb4 HBY h1 h2 HCP HQ
          go_wp2_with (refine wpList_store_row rfl 45 (.tmp 2) (.tmp 107) rfl w.heap.size #[b8 qf, b8 qe, .slice a4 bs.length c4, .slice none ws.length 0, b16 qa, b16 qm] rfl rfl 45 zeroRC HR4.out.box.zero (by kernel_rfl) (by kernel_rfl) (by kernel_rfl) ?_)
          exact bodyPost_ret (v := .tuple #[repV ⟨qf, qe, bs, ws, qa, qm⟩ none 0 a4 c4, .int .i64 0]) (results_cell_row_tmp rfl _ _ w.heap.size 45 _ (0, 0) _ rfl (setRow_heap _ _ _ _ _ _ HR4.out.box.zero) Try.underlying45 rfl (by kernel_rfl) _ rfl) rfl (rparsed_some H1.out ⟨sl_row HR4.out.at_.words (fun x hx => HR4.out.up x (.inl hx)) _, sl_row HR4.out.at_.bits (fun x hx => HR4.out.up x (.inr hx)) _⟩ (below_setRow HR4.out.box.below (Nat.le_refl _) _) (fun x hx => Nat.le_of_lt (HR4.out.up x hx)))
        · have H1 := Lib.hid h1
          cases hbn : rbytesN ⟨qf, qe, bs, ws, qa, qm⟩ with
          | none =>
            rw [hbn] at HBY
            clear h1 h2 HCP hbn
            refine HBY.out.mono ?_
            rintro e w4 ⟨rfl, hb4⟩
            have HR4 := Lib.hid (HQ.out.box.on hb4)
            clear hb4 HBY HQ
            go_wp2_with (refine wpList_store_row rfl 45 (.tmp 2) (.tmp 106) rfl w.heap.size zeroRC rfl rfl 45 zeroRC HR4.out.zero (by kernel_rfl) (by kernel_rfl) (by kernel_rfl) ?_)
            exact bodyPost_ret (v := .tuple #[.agg zeroRC, .int .i64 13]) (results_cell_row_tmp rfl _ _ w.heap.size 45 zeroRC (0, 0) _ rfl (setRow_heap _ _ _ _ _ _ HR4.out.zero) Try.underlying45 rfl (by kernel_rfl) _ rfl) rfl (rparsed_none H1.out (below_setRow HR4.out.below (Nat.le_refl _) _))
          | some l2 =>
            have hne : l2 ≠ l := fun h => h2 (by rw [hbn, h])
            have hse : ((str l2).toList == (str l).toList) = false := by
              rw [beq_eq_false_iff_ne]
              intro h
              apply hne
              have h3 : (str l2).toList = (str l).toList := h
              simpa [str] using h3
            rw [hbn] at HBY
            clear h1 h2 HCP hbn hne
            refine HBY.out.mono ?_
            rintro e w4 ⟨a9, c9, rfl, hs4, hb4, -⟩
            have HR4 := Lib.hid (HQ.out.box.on hb4)
            have tx1 := hs4.text (P := Try.prog) Try.underlying27 Try.underlying5 Try.underlying9
            have tx2 := (HS0.out.below HR4.out.below (Nat.le_refl _)).text (P := Try.prog) Try.underlying27 Try.underlying5 Try.underlying9
            clear hs4 hb4 HBY HQ
            go_wp2_with (refine wpList_store_row rfl 45 (.tmp 2) (.tmp 106) rfl w.heap.size zeroRC rfl rfl 45 zeroRC HR4.out.zero (by kernel_rfl) (by kernel_rfl) (by kernel_rfl) ?_)
            exact bodyPost_ret (v := .tuple #[.agg zeroRC, .int .i64 13]) (results_cell_row_tmp rfl _ _ w.heap.size 45 zeroRC (0, 0) _ rfl (setRow_heap _ _ _ _ _ _ HR4.out.zero) Try.underlying45 rfl (by kernel_rfl) _ rfl) rfl (rparsed_none H1.out (below_setRow HR4.out.below (Nat.le_refl _) _))
      · have HSD := Lib.hid (HSW.out.from_ (k := 2) hl2)
        rw [if_neg hc2, show (Option.map (fun x : Addr => x.add 2) (some ⟨bb, off, none⟩)) = some ⟨bb, off + 2, none⟩ from rfl] at HSD
        have hcc : 2 ≤ c := by have := HS0.out.nle; omega
        clear HSW
        have HUN := Lib.hid (show Calls Try.prog 23 #[.slice (some ⟨bb, off + 2, none⟩) (n - 2) (c - 2)] ((w.alloc (.cells zeroRC 45)).alloc (.cells #[.int .u8 (f0.toNat : Int), .int .u8 0, .slice none 0 0, .slice none 0 0, .int .u16 0, .int .u16 0] 45)) (Fresh Value.bool (unpackN (l.drop 2)) _) from rUnpack_any _ _ _ _ _ HSD.out (by omega))
        have hul : (unpackN (l.drop 2)).length ≤ 800000 := by rw [length_unpackN, List.length_drop, HLN.out]; omega
        generalize unpackN (l.drop 2) = ul at *
        go_enter Try.func28, Try.ntmps28
        go_wp2_with fail
        generalize (w.alloc (.cells zeroRC 45)).alloc (.cells #[.int .u8 (f0.toNat : Int), .int .u8 0, .slice none 0 0, .slice none 0 0, .int .u16 0, .int .u16 0] 45) = W2 at *
        refine HUN.out.mono ?_
        rintro e W4 ⟨a4, c4, rfl, hs4, hb4, hx4⟩
        have HR4 := Lib.hid (HRB.out.on hb4)
        have hw0 := HR4.out.c 2
        have hwz := HR4.out.z 2
        have HQ : Hid (RQR w (W4.setCell ⟨w.heap.size + 1, 2, none⟩ (.slice a4 ul.length c4)) cand none 0 a4 c4) := Lib.hid (by
          rw [HE.out]
          refine ⟨HR4.out.set 2 _, ⟨Sl.none_, ?_⟩, fun x hx => ?_, by simp, by simp only; omega⟩
          · have h := hs4.set (g := w.heap.size + 1) (i := 2) (v := .slice a4 ul.length c4) (fun x hx => by have := hx4 x hx; have := HRB.out.glt; omega)
            rw [World.size_setCell]
            exact h
          · rcases hx with hx | hx
            · cases hx
            · have := hx4 x hx; have := HRB.out.glt; have := HRB.out.lt; omega)
        have hxx0 := (HR4.out.set 2 (.slice a4 ul.length c4)).c 0
        clear hs4 hb4 hx4 HUN HE hv hz yy0 yy1 y0 HSD
        go_upto_region 28 with fail
        clear hw0 hwz hxx0 HR4 HRB
        generalize W4.setCell ⟨w.heap.size + 1, 2, none⟩ (.slice a4 ul.length c4) = W3 at *
        have HFEW := HQ.out.few
        have HBY := Lib.hid (rRBytes_any cand none 0 a4 c4 W3 HQ.out.at_ HFEW.1 HFEW.2)
        obtain ⟨qf, qe, bs, ws, qa, qm⟩ := cand
        simp only at HFEW
        have hx := fun o => HQ.out.box.c o
        go_wp2_with fail
        clear hx
        rcases HCP.out with ⟨h1, h2⟩ | ⟨h1, h2⟩
        · rw [h2] at HBY
          refine HBY.out.mono ?_
          rintro e w4 ⟨a9, c9, rfl, hs4, hb4, -⟩
          have HR4 := Lib.hid (HQ.out.on hb4)
          have tx1 := hs4.text (P := Try.prog) Try.underlying27 Try.underlying5 Try.underlying9
          have tx2 := (HS0.out.below HR4.out.box.below (Nat.le_refl _)).text (P := Try.prog) Try.underlying27 Try.underlying5 Try.underlying9
          have hse : ((str l).toList == (str l).toList) = true := by simp
          have hx := fun o => HR4.out.box.c o
          have H1 := Lib.hid h1
          clear hs4 hb4 HBY h1 h2 HCP HQ
          go_wp2_with (refine wpList_store_row rfl 45 (.tmp 2) (.tmp 107) rfl w.heap.size #[b8 qf, b8 qe, .slice a4 bs.length c4, .slice none ws.length 0, b16 qa, b16 qm] rfl rfl 45 zeroRC HR4.out.box.zero (by kernel_rfl) (by kernel_rfl) (by kernel_rfl) ?_)
          exact bodyPost_ret (v := .tuple #[repV ⟨qf, qe, bs, ws, qa, qm⟩ none 0 a4 c4, .int .i64 0]) (results_cell_row_tmp rfl _ _ w.heap.size 45 _ (0, 0) _ rfl (setRow_heap _ _ _ _ _ _ HR4.out.box.zero) Try.underlying45 rfl (by kernel_rfl) _ rfl) rfl (rparsed_some H1.out ⟨sl_row HR4.out.at_.words (fun x hx => HR4.out.up x (.inl hx)) _, sl_row HR4.out.at_.bits (fun x hx => HR4.out.up x (.inr hx)) _⟩ (below_setRow HR4.out.box.below (Nat.le_refl _) _) (fun x hx => Nat.le_of_lt (HR4.out.up x hx)))
        · have H1 := Lib.hid h1
          cases hbn : rbytesN ⟨qf, qe, bs, ws, qa, qm⟩ with
          | none =>
            rw [hbn] at HBY
            clear h1 h2 HCP hbn
            refine HBY.out.mono ?_
            rintro e w4 ⟨rfl, hb4⟩
            have HR4 := Lib.hid (HQ.out.box.on hb4)
            clear hb4 HBY HQ
            go_wp2_with (refine wpList_store_row rfl 45 (.tmp 2) (.tmp 106) rfl w.heap.size zeroRC rfl rfl 45 zeroRC HR4.out.zero (by kernel_rfl) (by kernel_rfl) (by kernel_rfl) ?_)
            exact bodyPost_ret (v := .tuple #[.agg zeroRC, .int .i64 13]) (results_cell_row_tmp rfl _ _ w.heap.size 45 zeroRC (0, 0) _ rfl (setRow_heap _ _ _ _ _ _ HR4.out.zero) Try.underlying45 rfl (by kernel_rfl) _ rfl) rfl (rparsed_none H1.out (below_setRow HR4.out.below (Nat.le_refl _) _))
          | some l2 =>
            have hne : l2 ≠ l := fun h => h2 (by rw [hbn, h])
            have hse : ((str l2).toList == (str l).toList) = false := by
              rw [beq_eq_false_iff_ne]
              intro h
              apply hne
              have h3 : (str l2).toList = (str l).toList := h
              simpa [str] using h3
            rw [hbn] at HBY
            clear h1 h2 HCP hbn hne
            refine HBY.out.mono ?_
            rintro e w4 ⟨a9, c9, rfl, hs4, hb4, -⟩
            have HR4 := Lib.hid (HQ.out.box.on hb4)
            have tx1 := hs4.text (P := Try.prog) Try.underlying27 Try.underlying5 Try.underlying9
            have tx2 := (HS0.out.below HR4.out.below (Nat.le_refl _)).text (P := Try.prog) Try.underlying27 Try.underlying5 Try.underlying9
            clear hs4 hb4 HBY HQ
            go_wp2_with (refine wpList_store_row rfl 45 (.tmp 2) (.tmp 106) rfl w.heap.size zeroRC rfl rfl 45 zeroRC HR4.out.zero (by kernel_rfl) (by kernel_rfl) (by kernel_rfl) ?_)
            exact bodyPost_ret (v := .tuple #[.agg zeroRC, .int .i64 13]) (results_cell_row_tmp rfl _ _ w.heap.size 45 zeroRC (0, 0) _ rfl (setRow_heap _ _ _ _ _ _ HR4.out.zero) Try.underlying45 rfl (by kernel_rfl) _ rfl) rfl (rparsed_none H1.out (below_setRow HR4.out.below (Nat.le_refl _) _))
    by_cases c2 : f0.toNat = 2
    · have e127 : decide ((127 : Int) < (f0.toNat : Int)) = false := by simp; omega
      have e1 : ((f0.toNat : Int) == 1) = false := by simp; omega
      have e2 : ((f0.toNat : Int) == 2) = true := by simp; omega
      have e3 : ((f0.toNat : Int) == 3) = false := by simp; omega
      have e4 : ((f0.toNat : Int) == 4) = false := by simp; omega
      have e23 : ((f0.toNat : Int) == 23) = false := by simp; omega
      have e5 : ((f0.toNat : Int) == 5) = false := by simp; omega
      have e6 : ((f0.toNat : Int) == 6) = false := by simp; omega
      have e15 : ((f0.toNat : Int) == 15) = false := by simp; omega
      have e16 : ((f0.toNat : Int) == 16) = false := by simp; omega
      have hcand : cand = ⟨f0, 0, unpackN (l.drop 2), [], 0, 0⟩ := by rw [HCD.out]; simp [c2]
      have HE := Lib.hid hcand
      clear hcand HCD c128 c1 c2
      have HSW := Lib.hid ((HS0.out.below HRB.out.below (Nat.le_refl _)).more HRB.out.below.size)
      by_cases hc2 : c = 2
      · have HSD := Lib.hid (HSW.out.from_ (k := 2) hl2)
        have hnn : n = 2 := by have := HS0.out.nle; omega
        subst hc2 hnn
        rw [if_pos rfl] at HSD
        clear HSW
        have HUN := Lib.hid (show Calls Try.prog 23 #[.slice (some ⟨bb, off, none⟩) 0 0] ((w.alloc (.cells zeroRC 45)).alloc (.cells #[.int .u8 (f0.toNat : Int), .int .u8 0, .slice none 0 0, .slice none 0 0, .int .u16 0, .int .u16 0] 45)) (Fresh Value.bool (unpackN (l.drop 2)) _) from rUnpack_any _ _ _ _ _ HSD.out (by omega))
        have hul : (unpackN (l.drop 2)).length ≤ 800000 := by rw [length_unpackN, List.length_drop, HLN.out]; omega
        generalize unpackN (l.drop 2) = ul at *
        go_enter Try.func28, Try.ntmps28
        go_wp2_with fail
        generalize (w.alloc (.cells zeroRC 45)).alloc (.cells #[.int .u8 (f0.toNat : Int), .int .u8 0, .slice none 0 0, .slice none 0 0, .int .u16 0, .int .u16 0] 45) = W2 at *
        refine HUN.out.mono ?_
        rintro e W4 ⟨a4, c4, rfl, hs4, hb4, hx4⟩
        have HR4 := Lib.hid (HRB.out.on hb4)
        have hw0 := HR4.out.c 2
        have hwz := HR4.out.z 2
        have HQ : Hid (RQR w (W4.setCell ⟨w.heap.size + 1, 2, none⟩ (.slice a4 ul.length c4)) cand none 0 a4 c4) := Lib.hid (by
          rw [HE.out]
          refine ⟨HR4.out.set 2 _, ⟨Sl.none_, ?_⟩, fun x hx => ?_, by simp, by simp only; omega⟩
          · have h := hs4.set (g := w.heap.size + 1) (i := 2) (v := .slice a4 ul.length c4) (fun x hx => by have := hx4 x hx; have := HRB.out.glt; omega)
            rw [World.size_setCell]
            exact h
          · rcases hx with hx | hx
            · cases hx
            · have := hx4 x hx; have := HRB.out.glt; have := HRB.out.lt; omega)
        have hxx0 := (HR4.out.set 2 (.slice a4 ul.length c4)).c 0
        clear hs4 hb4 hx4 HUN HE hv hz yy0 yy1 y0 HSD
        go_upto_region 28 with fail
        clear hw0 hwz hxx0 HR4 HRB
        generalize W4.setCell ⟨w.heap.size + 1, 2, none⟩ (.slice a4 ul.length c4) = W3 at *
        have HFEW := HQ.out.few
        have HBY := Lib.hid (rRBytes_any cand none 0 a4 c4 W3 HQ.out.at_ HFEW.1 HFEW.2)
        obtain ⟨qf, qe, bs, ws, qa, qm⟩ := cand
        simp only at HFEW
        have hx := fun o => HQ.out.box.c o
        go_wp2_with fail
        clear hx
        rcases HCP.out with ⟨h1, h2⟩ | ⟨h1, h2⟩
        · rw [h2] at HBY
          refine HBY.out.mono ?_
          rintro e w4 ⟨a9, c9, rfl, hs4, hb4, -⟩
          have HR4 := Lib.hid (HQ.out.on hb4)
          have tx1 := hs4.text (P := Try.prog) Try.underlying27 Try.underlying5 Try.underlying9
          have tx2 := (HS0.out.below HR4.out.box.below (Nat.le_refl _)).text (P := Try.prog) Try.underlying27 Try.underlying5 Try.underlying9
          have hse : ((str l).toList == (str l).toList) = true := by simp
          have hx := fun o => HR4.out.box.c o
          have H1 := Lib.hid h1
          clear hs4 hb4 HBY h1 h2 HCP HQ
          go_wp2_with (refine wpList_store_row rfl 45 (.tmp 2) (.tmp 107) rfl w.heap.size #[b8 qf, b8 qe, .slice a4 bs.length c4, .slice none ws.length 0, b16 qa, b16 qm] rfl rfl 45 zeroRC HR4.out.box.zero (by kernel_rfl) (by kernel_rfl) (by kernel_rfl) ?_)
          exact bodyPost_ret (v := .tuple #[repV ⟨qf, qe, bs, ws, qa, qm⟩ none 0 a4 c4, .int .i64 0]) (results_cell_row_tmp rfl _ _ w.heap.size 45 _ (0, 0) _ rfl (setRow_heap _ _ _ _ _ _ HR4.out.box.zero) Try.underlying45 rfl (by kernel_rfl) _ rfl) rfl (rparsed_some H1.out ⟨sl_row HR4.out.at_.words (fun x hx => HR4.out.up x (.inl hx)) _, sl_row HR4.out.at_.bits (fun x hx => HR4.out.up x (.inr hx)) _⟩ (below_setRow HR4.out.box.below (Nat.le_refl _) _) (fun x hx => Nat.le_of_lt (HR4.out.up x hx)))
        · have H1 := Lib.hid h1
          cases hbn : rbytesN ⟨qf, qe, bs, ws, qa, qm⟩ with
          | none =>
            rw [hbn] at HBY
            clear h1 h2 HCP hbn
            refine HBY.out.mono ?_
            rintro e w4 ⟨rfl, hb4⟩
            have HR4 := Lib.hid (HQ.out.box.on hb4)
            clear hb4 HBY HQ
            go_wp2_with (refine wpList_store_row rfl 45 (.tmp 2) (.tmp 106) rfl w.heap.size zeroRC rfl rfl 45 zeroRC HR4.out.zero (by kernel_rfl) (by kernel_rfl) (by kernel_rfl) ?_)
            exact bodyPost_ret (v := .tuple #[.agg zeroRC, .int .i64 13]) (results_cell_row_tmp rfl _ _ w.heap.size 45 zeroRC (0, 0) _ rfl (setRow_heap _ _ _ _ _ _ HR4.out.zero) Try.underlying45 rfl (by kernel_rfl) _ rfl) rfl (rparsed_none H1.out (below_setRow HR4.out.below (Nat.le_refl _) _))
          | some l2 =>
            have hne : l2 ≠ l := fun h => h2 (by rw [hbn, h])
            have hse : ((str l2).toList == (str l).toList) = false := by
              rw [beq_eq_false_iff_ne]
              intro h
              apply hne
              have h3 : (str l2).toList = (str l).toList := h
              simpa [str] using h3
            rw [hbn] at HBY
            clear h1 h2 HCP hbn hne
            refine HBY.out.mono ?_
            rintro e w4 ⟨a9, c9, rfl, hs4, hb4, -⟩
            have HR4 := Lib.hid (HQ.out.box.on hb4)
            have tx1 := hs4.text (P := Try.prog) Try.underlying27 Try.underlying5 Try.underlying9
            have tx2 := (HS0.out.below HR4.out.below (Nat.le_refl _)).text (P := Try.prog) Try.underlying27 Try.underlying5 Try.underlying9
            clear hs4 hb4 HBY HQ
            go_wp2_with (refine wpList_store_row rfl 45 (.tmp 2) (.tmp 106) rfl w.heap.size zeroRC rfl rfl 45 zeroRC HR4.out.zero (by kernel_rfl) (by kernel_rfl) (by kernel_rfl) ?_)
            exact bodyPost_ret (v := .tuple #[.agg zeroRC, .int .i64 13]) (results_cell_row_tmp rfl _ _ w.heap.size 45 zeroRC (0, 0) _ rfl (setRow_heap _ _ _ _ _ _ HR4.out.zero) Try.underlying45 rfl (by kernel_rfl) _ rfl) rfl (rparsed_none H1.out (below_setRow HR4.out.below (Nat.le_refl _) _))
      · have HSD := Lib.hid (HSW.out.from_ (k := 2) hl2)
        rw [if_neg hc2, show (Option.map (fun x : Addr => x.add 2) (some ⟨bb, off, none⟩)) = some ⟨bb, off + 2, none⟩ from rfl] at HSD
        have hcc : 2 ≤ c := by have := HS0.out.nle; omega
        clear HSW
        have HUN := Lib.hid (show Calls Try.prog 23 #[.slice (some ⟨bb, off + 2, none⟩) (n - 2) (c - 2)] ((w.alloc (.cells zeroRC 45)).alloc (.cells #[.int .u8 (f0.toNat : Int), .int .u8 0, .slice none 0 0, .slice none 0 0, .int .u16 0, .int .u16 0] 45)) (Fresh Value.bool (unpackN (l.drop 2)) _) from rUnpack_any _ _ _ _ _ HSD.out (by omega))
        have hul : (unpackN (l.drop 2)).length ≤ 800000 := by rw [length_unpackN, List.length_drop, HLN.out]; omega
        generalize unpackN (l.drop 2) = ul at *
        go_enter Try.func28, Try.ntmps28
        go_wp2_with fail
        generalize (w.alloc (.cells zeroRC 45)).alloc (.cells #[.int .u8 (f0.toNat : Int), .int .u8 0, .slice none 0 0, .slice none 0 0, .int .u16 0, .int .u16 0] 45) = W2 at *
        refine HUN.out.mono ?_
        rintro e W4 ⟨a4, c4, rfl, hs4, hb4, hx4⟩
        have HR4 := Lib.hid (HRB.out.on hb4)
        have hw0 := HR4.out.c 2
        have hwz := HR4.out.z 2
        have HQ : Hid (RQR w (W4.setCell ⟨w.heap.size + 1, 2, none⟩ (.slice a4 ul.length c4)) cand none 0 a4 c4) := Lib.hid (by
          rw [HE.out]
          refine ⟨HR4.out.set 2 _, ⟨Sl.none_, ?_⟩, fun x hx => ?_, by simp, by simp only; omega⟩
          · have h := hs4.set (g := w.heap.size + 1) (i := 2) (v := .slice a4 ul.length c4) (fun x hx => by have := hx4 x hx; have := HRB.out.glt; omega)
            rw [World.size_setCell]
            exact h
          · rcases hx with hx | hx
            · cases hx
            · have := hx4 x hx; have := HRB.out.glt; have := HRB.out.lt; omega)
        have hxx0 := (HR4.out.set 2 (.slice a4 ul.length c4)).c 0
        clear hs4 hb4 hx4 HUN HE hv hz yy0 yy1 y0 HSD
        go_upto_region 28 with fail
        clear hw0 hwz hxx0 HR4 HRB
        generalize W4.setCell ⟨w.heap.size + 1, 2, none⟩ (.slice a4 ul.length c4) = W3 at *
        have HFEW := HQ.out.few
        have HBY := Lib.hid (rRBytes_any cand none 0 a4 c4 W3 HQ.out.at_ HFEW.1 HFEW.2)
        obtain ⟨qf, qe, bs, ws, qa, qm⟩ := cand
        simp only at HFEW
        have hx := fun o => HQ.out.box.c o
        go_wp2_with fail
        clear hx
        rcases HCP.out with ⟨h1, h2⟩ | ⟨h1, h2⟩
        · rw [h2] at HBY
          refine HBY.out.mono ?_
          rintro e w4 ⟨a9, c9, rfl, hs4, hb4, -⟩
          have HR4 := Lib.hid (HQ.out.on hb4)
          have tx1 := hs4.text (P := Try.prog) Try.underlying27 Try.underlying5 Try.underlying9
          have tx2 := (HS0.out.below HR4.out.box.below (Nat.le_refl _)).text (P := Try.prog) Try.underlying27 Try.underlying5 Try.underlying9
          have hse : ((str l).toList == (str l).toList) = true := by simp
          have hx := fun o => HR4.out.box.c o
          have H1 := Lib.hid h1
          clear hs4 hb4 HBY h1 h2 HCP HQ
          go_wp2_with (refine wpList_store_row rfl 45 (.tmp 2) (.tmp 107) rfl w.heap.size #[b8 qf, b8 qe, .slice a4 bs.length c4, .slice none ws.length 0, b16 qa, b16 qm] rfl rfl 45 zeroRC HR4.out.box.zero (by kernel_rfl) (by kernel_rfl) (by kernel_rfl) ?_)
          exact bodyPost_ret (v := .tuple #[repV ⟨qf, qe, bs, ws, qa, qm⟩ none 0 a4 c4, .int .i64 0]) (results_cell_row_tmp rfl _ _ w.heap.size 45 _ (0, 0) _ rfl (setRow_heap _ _ _ _ _ _ HR4.out.box.zero) Try.underlying45 rfl (by kernel_rfl) _ rfl) rfl (rparsed_some H1.out ⟨sl_row HR4.out.at_.words (fun x hx => HR4.out.up x (.inl hx)) _, sl_row HR4.out.at_.bits (fun x hx => HR4.out.up x (.inr hx)) _⟩ (below_setRow HR4.out.box.below (Nat.le_refl _) _) (fun x hx => Nat.le_of_lt (HR4.out.up x hx)))
        · have H1 := Lib.hid h1
          cases hbn : rbytesN ⟨qf, qe, bs, ws, qa, qm⟩ with
          | none =>
            rw [hbn] at HBY
            clear h1 h2 HCP hbn
            refine HBY.out.mono ?_
            rintro e w4 ⟨rfl, hb4⟩
            have HR4 := Lib.hid (HQ.out.box.on hb4)
            clear hb4 HBY HQ
            go_wp2_with (refine wpList_store_row rfl 45 (.tmp 2) (.tmp 106) rfl w.heap.size zeroRC rfl rfl 45 zeroRC HR4.out.zero (by kernel_rfl) (by kernel_rfl) (by kernel_rfl) ?_)
            exact bodyPost_ret (v := .tuple #[.agg zeroRC, .int .i64 13]) (results_cell_row_tmp rfl _ _ w.heap.size 45 zeroRC (0, 0) _ rfl (setRow_heap _ _ _ _ _ _ HR4.out.zero) Try.underlying45 rfl (by kernel_rfl) _ rfl) rfl (rparsed_none H1.out (below_setRow HR4.out.below (Nat.le_refl _) _))
          | some l2 =>
            have hne : l2 ≠ l := fun h => h2 (by rw [hbn, h])
            have hse : ((str l2).toList == (str l).toList) = false := by
              rw [beq_eq_false_iff_ne]
              intro h
              apply hne
              have h3 : (str l2).toList = (str l).toList := h
              simpa [str] using h3
            rw [hbn] at HBY
            clear h1 h2 HCP hbn hne
            refine HBY.out.mono ?_
            rintro e w4 ⟨a9, c9, rfl, hs4, hb4, -⟩
            have HR4 := Lib.hid (HQ.out.box.on hb4)
            have tx1 := hs4.text (P := Try.prog) Try.underlying27 Try.underlying5 Try.underlying9
            have tx2 := (HS0.out.below HR4.out.below (Nat.le_refl _)).text (P := Try.prog) Try.underlying27 Try.underlying5 Try.underlying9
            clear hs4 hb4 HBY HQ
            go_wp2_with (refine wpList_store_row rfl 45 (.tmp 2) (.tmp 106) rfl w.heap.size zeroRC rfl rfl 45 zeroRC HR4.out.zero (by kernel_rfl) (by kernel_rfl) (by kernel_rfl) ?_)
            exact bodyPost_ret (v := .tuple #[.agg zeroRC, .int .i64 13]) (results_cell_row_tmp rfl _ _ w.heap.size 45 zeroRC (0, 0) _ rfl (setRow_heap _ _ _ _ _ _ HR4.out.zero) Try.underlying45 rfl (by kernel_rfl) _ rfl) rfl (rparsed_none H1.out (below_setRow HR4.out.below (Nat.le_refl _) _))
    by_cases c3 : f0.toNat = 3
    · have e127 : decide ((127 : Int) < (f0.toNat : Int)) = false := by simp; omega
      have e1 : ((f0.toNat : Int) == 1) = false := by simp; omega
      have e2 : ((f0.toNat : Int) == 2) = false := by simp; omega
      have e3 : ((f0.toNat : Int) == 3) = true := by simp; omega
      have e4 : ((f0.toNat : Int) == 4) = false := by simp; omega
      have e23 : ((f0.toNat : Int) == 23) = false := by simp; omega
      have e5 : ((f0.toNat : Int) == 5) = false := by simp; omega
      have e6 : ((f0.toNat : Int) == 6) = false := by simp; omega
      have e15 : ((f0.toNat : Int) == 15) = false := by simp; omega
      have e16 : ((f0.toNat : Int) == 16) = false := by simp; omega
      have hcand : cand = ⟨f0, 0, [], numsN (l.drop 2), 0, 0⟩ := by rw [HCD.out]; simp [c3]
      have HE := Lib.hid hcand
      clear hcand HCD c128 c1 c2 c3
      go_enter Try.func28, Try.ntmps28
      go_wp2_with fail
      generalize (w.alloc (.cells zeroRC 45)).alloc (.cells #[.int .u8 (f0.toNat : Int), .int .u8 0, .slice none 0 0, .slice none 0 0, .int .u16 0, .int .u16 0] 45) = W2 at *
      go_loopw [5] (fun i wr => ∃ (k p : Nat) (v : Value), Hid (p = 2 + 2 * k) ∧ p ≤ n + 2 ∧ i = .int .i64 (p : Int) ∧ RBR w wr (w.heap.size + 1) #[.int .u8 (f0.toNat : Int), .int .u8 0, .slice none 0 0, v, .int .u16 0, .int .u16 0] ∧ wr.ownsRow (w.heap.size + 2) 22 1 v k (((numsN (l.drop 2)).take k).map b16)) (fun i _ => n + 4 - (intOf i).toNat)
      case atStart => exact ⟨0, 2, .slice none 0 0, Lib.hid rfl, by omega, rfl, HRB.out, by simpa using World.ownsRow_nil _ _ _ _⟩
      case round =>
        obtain ⟨k, p, v, HP, hpn, rfl, hrb, ho⟩ := hrel
        have HRK := Lib.hid hrb
        have HO := Lib.hid ho
        have hgz := hrb.glt
        have hp := HP.out
        clear hrb ho HRB hv hz yy0 yy1 y0
        by_cases hlt : p + 1 < n
        · have t3 : decide ((p : Int) + 1 < (n : Int)) = true := by simp; omega
          have HAK := fun q => Lib.hid (rAt_i w.heap.size (some ⟨bb, off, none⟩) n c l p (p : Int) rfl (wr.drewN q) ((HS0.out.below HRK.out.below (Nat.le_refl _)).drawn q) (by omega))
          have HOq := fun q => Lib.hid (show (wr.drewN q).ownsRow (w.heap.size + 2) 22 1 v k (((numsN (l.drop 2)).take k).map b16) from HO.out)
          have hwk : IntKind.u16.wrap ((at16 l p).toNat : Int) = ((at16 l p).toNat : Int) := IntWalk.u16_in _ (by have := (at16 l p).toNat_lt; omega)
          have HNX : Hid (((numsN (l.drop 2)).take k).map b16 ++ [b16 (at16 l p)] = ((numsN (l.drop 2)).take (k + 1)).map b16) := Lib.hid (by rw [hp]; exact nums_next (by rw [HLN.out]; omega))
          obtain ⟨iW, hi, hz0, hz1, hz2⟩ := info_parts info16
          have hz2' : iW.bytes = 2 := hz2
          have hkn : k ≤ n := by omega
          have hq4 : wr.cell? ⟨w.heap.size + 1, 3, none⟩ = some v := HRK.out.c 3
          have hgne : ¬ w.heap.size + 1 = wr.heap.size := by omega
          clear hp
          generalize at16 l p = nx at *
          have hqq : ∀ q, ((wr.drewN q).alloc (.cells #[.int .u16 (nx.toNat : Int)] 22)).cell? ⟨w.heap.size + 1, 3, none⟩ = some v := fun q => (World.cell?_of_block (w := wr) (a := ⟨w.heap.size + 1, 3, none⟩) (Below.heap_alloc (wr.drewN q) _ _ (by show w.heap.size + 1 < wr.heap.size; omega))).trans hq4
          go_wp2_with fail
          go_region_law (first
            | (rw [if_pos (by rfl)]; go_simp; go_at_call 58; refine (HAK 1).out.mono ?_; rintro e w4 ⟨rfl, q4, rfl⟩; go_wp2_with fail)
            | (revert q4; intro q4; (refine step_append_grew (by rfl) (.tmp 51) (.tmp 56) 23 (by rfl) (w.heap.size + 2) 22 iW (.int .u16 0) 2 Try.underlying23 hi hz0 hz1 hz2' rfl v k _ (by rfl) ((HOq (1 + q4)).out.alloc (.cells #[b16 nx] 22)) ⟨wr.heap.size, 0, none⟩ 1 1 [b16 nx] (by rfl) (by rfl) (new_cells (wr.drewN (1 + q4)) #[b16 nx] _) (by intro u hu; simp at hu; subst hu; rfl) (by omega) (by unfold maxLen; omega) (by omega) (by show w.heap.size + 2 ≤ ((wr.drewN (1 + q4)).alloc _).heap.size; rw [World.size_alloc]; show w.heap.size + 2 ≤ wr.heap.size + 1; omega) ?_); intro v5 w5 hown5 hg5; rw [HNX.out] at hown5; have HO5 := Lib.hid hown5; have HR5 := Lib.hid (HRK.out.grewQ HO.out hg5); have hv5 := HR5.out.c 3; have hz5 := HR5.out.z 3; clear hown5 hg5; obtain ⟨a5, c5, rfl, -⟩ := Sl.of_own HO5.out))
          all_goals
            go_wp2_with fail
            go_roundw
            case rel => exact ⟨k + 1, p + 2, .slice a5 (k + 1) c5, Lib.hid (by have := HP.out; omega), by omega, by go_num, HR5.out.set 3 _, ownsRow_setCell_below HO5.out (by simp) _⟩
            case measure => simp [intOf]; omega
        · have t3 : decide ((p : Int) + 1 < (n : Int)) = false := by simp; omega
          have hall : (numsN (l.drop 2)).take k = numsN (l.drop 2) := List.take_of_length_le (by rw [length_numsN, List.length_drop, HLN.out]; omega)
          have ho := HO.out
          rw [hall] at ho
          obtain ⟨a5, c5, rfl, hs5⟩ := Sl.of_own ho
          have hk5 := hs5.len
          have HUP := Lib.hid (fun x (hx : a5 = some x) => (ho.lt x.block (by rw [hx]; rfl)).1)
          have HQ : Hid (RQR w wr cand a5 c5 none 0) := Lib.hid (by
            rw [HE.out]
            refine ⟨?_, ⟨hs5.norm, Sl.none_⟩, fun x hx => ?_, by have := HLN.out; simp only [length_numsN, List.length_drop]; omega, by simp⟩
            · have h := HRK.out
              rw [← hk5] at h
              exact h
            · rcases hx with hx | hx
              · have := HUP.out x hx; omega
              · cases hx)
          have hxx0 := HRK.out.c 0
          clear hs5 ho HO hall HRK HUP HE hk5 hp hgz
          generalize wr = W3 at *
          go_upto_region 28 with fail
          clear hxx0
          have HFEW := HQ.out.few
          have HBY := Lib.hid (rRBytes_any cand a5 c5 none 0 W3 HQ.out.at_ HFEW.1 HFEW.2)
          obtain ⟨qf, qe, bs, ws, qa, qm⟩ := cand
          simp only at HFEW
          have hx := fun o => HQ.out.box.c o
          go_wp2_with fail
          clear hx
          rcases HCP.out with ⟨h1, h2⟩ | ⟨h1, h2⟩
          · rw [h2] at HBY
            refine HBY.out.mono ?_
            rintro e w4 ⟨a9, c9, rfl, hs4, hb4, -⟩
            have HR4 := Lib.hid (HQ.out.on hb4)
            have tx1 := hs4.text (P := Try.prog) Try.underlying27 Try.underlying5 Try.underlying9
            have tx2 := (HS0.out.below HR4.out.box.below (Nat.le_refl _)).text (P := Try.prog) Try.underlying27 Try.underlying5 Try.underlying9
            have hse : ((str l).toList == (str l).toList) = true := by simp
            have hx := fun o => HR4.out.box.c o
            have H1 := Lib.hid h1
            clear hs4 hb4 HBY h1 h2 HCP HQ
            go_wp2_with (refine wpList_store_row rfl 45 (.tmp 2) (.tmp 107) rfl w.heap.size #[b8 qf, b8 qe, .slice none bs.length 0, .slice a5 ws.length c5, b16 qa, b16 qm] rfl rfl 45 zeroRC HR4.out.box.zero (by kernel_rfl) (by kernel_rfl) (by kernel_rfl) ?_)
            exact bodyPost_ret (v := .tuple #[repV ⟨qf, qe, bs, ws, qa, qm⟩ a5 c5 none 0, .int .i64 0]) (results_cell_row_tmp rfl _ _ w.heap.size 45 _ (0, 0) _ rfl (setRow_heap _ _ _ _ _ _ HR4.out.box.zero) Try.underlying45 rfl (by kernel_rfl) _ rfl) rfl (rparsed_some H1.out ⟨sl_row HR4.out.at_.words (fun x hx => HR4.out.up x (.inl hx)) _, sl_row HR4.out.at_.bits (fun x hx => HR4.out.up x (.inr hx)) _⟩ (below_setRow HR4.out.box.below (Nat.le_refl _) _) (fun x hx => Nat.le_of_lt (HR4.out.up x hx)))
          · have H1 := Lib.hid h1
            cases hbn : rbytesN ⟨qf, qe, bs, ws, qa, qm⟩ with
            | none =>
              rw [hbn] at HBY
              clear h1 h2 HCP hbn
              refine HBY.out.mono ?_
              rintro e w4 ⟨rfl, hb4⟩
              have HR4 := Lib.hid (HQ.out.box.on hb4)
              clear hb4 HBY HQ
              go_wp2_with (refine wpList_store_row rfl 45 (.tmp 2) (.tmp 106) rfl w.heap.size zeroRC rfl rfl 45 zeroRC HR4.out.zero (by kernel_rfl) (by kernel_rfl) (by kernel_rfl) ?_)
              exact bodyPost_ret (v := .tuple #[.agg zeroRC, .int .i64 13]) (results_cell_row_tmp rfl _ _ w.heap.size 45 zeroRC (0, 0) _ rfl (setRow_heap _ _ _ _ _ _ HR4.out.zero) Try.underlying45 rfl (by kernel_rfl) _ rfl) rfl (rparsed_none H1.out (below_setRow HR4.out.below (Nat.le_refl _) _))
            | some l2 =>
              have hne : l2 ≠ l := fun h => h2 (by rw [hbn, h])
              have hse : ((str l2).toList == (str l).toList) = false := by
                rw [beq_eq_false_iff_ne]
                intro h
                apply hne
                have h3 : (str l2).toList = (str l).toList := h
                simpa [str] using h3
              rw [hbn] at HBY
              clear h1 h2 HCP hbn hne
              refine HBY.out.mono ?_
              rintro e w4 ⟨a9, c9, rfl, hs4, hb4, -⟩
              have HR4 := Lib.hid (HQ.out.box.on hb4)
              have tx1 := hs4.text (P := Try.prog) Try.underlying27 Try.underlying5 Try.underlying9
              have tx2 := (HS0.out.below HR4.out.below (Nat.le_refl _)).text (P := Try.prog) Try.underlying27 Try.underlying5 Try.underlying9
              clear hs4 hb4 HBY HQ
              go_wp2_with (refine wpList_store_row rfl 45 (.tmp 2) (.tmp 106) rfl w.heap.size zeroRC rfl rfl 45 zeroRC HR4.out.zero (by kernel_rfl) (by kernel_rfl) (by kernel_rfl) ?_)
              exact bodyPost_ret (v := .tuple #[.agg zeroRC, .int .i64 13]) (results_cell_row_tmp rfl _ _ w.heap.size 45 zeroRC (0, 0) _ rfl (setRow_heap _ _ _ _ _ _ HR4.out.zero) Try.underlying45 rfl (by kernel_rfl) _ rfl) rfl (rparsed_none H1.out (below_setRow HR4.out.below (Nat.le_refl _) _))
    by_cases c4 : f0.toNat = 4
    · have e127 : decide ((127 : Int) < (f0.toNat : Int)) = false := by simp; omega
      have e1 : ((f0.toNat : Int) == 1) = false := by simp; omega
      have e2 : ((f0.toNat : Int) == 2) = false := by simp; omega
      have e3 : ((f0.toNat : Int) == 3) = false := by simp; omega
      have e4 : ((f0.toNat : Int) == 4) = true := by simp; omega
      have e23 : ((f0.toNat : Int) == 23) = false := by simp; omega
      have e5 : ((f0.toNat : Int) == 5) = false := by simp; omega
      have e6 : ((f0.toNat : Int) == 6) = false := by simp; omega
      have e15 : ((f0.toNat : Int) == 15) = false := by simp; omega
      have e16 : ((f0.toNat : Int) == 16) = false := by simp; omega
      have hcand : cand = ⟨f0, 0, [], numsN (l.drop 2), 0, 0⟩ := by rw [HCD.out]; simp [c4]
      have HE := Lib.hid hcand
      clear hcand HCD c128 c1 c2 c3 c4
      go_enter Try.func28, Try.ntmps28
      go_wp2_with fail
      generalize (w.alloc (.cells zeroRC 45)).alloc (.cells #[.int .u8 (f0.toNat : Int), .int .u8 0, .slice none 0 0, .slice none 0 0, .int .u16 0, .int .u16 0] 45) = W2 at *
      go_loopw [5] (fun i wr => ∃ (k p : Nat) (v : Value), Hid (p = 2 + 2 * k) ∧ p ≤ n + 2 ∧ i = .int .i64 (p : Int) ∧ RBR w wr (w.heap.size + 1) #[.int .u8 (f0.toNat : Int), .int .u8 0, .slice none 0 0, v, .int .u16 0, .int .u16 0] ∧ wr.ownsRow (w.heap.size + 2) 22 1 v k (((numsN (l.drop 2)).take k).map b16)) (fun i _ => n + 4 - (intOf i).toNat)
      case atStart => exact ⟨0, 2, .slice none 0 0, Lib.hid rfl, by omega, rfl, HRB.out, by simpa using World.ownsRow_nil _ _ _ _⟩
      case round =>
        obtain ⟨k, p, v, HP, hpn, rfl, hrb, ho⟩ := hrel
        have HRK := Lib.hid hrb
        have HO := Lib.hid ho
        have hgz := hrb.glt
        have hp := HP.out
        clear hrb ho HRB hv hz yy0 yy1 y0
        by_cases hlt : p + 1 < n
        · have t3 : decide ((p : Int) + 1 < (n : Int)) = true := by simp; omega
          have HAK := fun q => Lib.hid (rAt_i w.heap.size (some ⟨bb, off, none⟩) n c l p (p : Int) rfl (wr.drewN q) ((HS0.out.below HRK.out.below (Nat.le_refl _)).drawn q) (by omega))
          have HOq := fun q => Lib.hid (show (wr.drewN q).ownsRow (w.heap.size + 2) 22 1 v k (((numsN (l.drop 2)).take k).map b16) from HO.out)
          have hwk : IntKind.u16.wrap ((at16 l p).toNat : Int) = ((at16 l p).toNat : Int) := IntWalk.u16_in _ (by have := (at16 l p).toNat_lt; omega)
          have HNX : Hid (((numsN (l.drop 2)).take k).map b16 ++ [b16 (at16 l p)] = ((numsN (l.drop 2)).take (k + 1)).map b16) := Lib.hid (by rw [hp]; exact nums_next (by rw [HLN.out]; omega))
          obtain ⟨iW, hi, hz0, hz1, hz2⟩ := info_parts info16
          have hz2' : iW.bytes = 2 := hz2
          have hkn : k ≤ n := by omega
          have hq4 : wr.cell? ⟨w.heap.size + 1, 3, none⟩ = some v := HRK.out.c 3
          have hgne : ¬ w.heap.size + 1 = wr.heap.size := by omega
          clear hp
          generalize at16 l p = nx at *
          have hqq : ∀ q, ((wr.drewN q).alloc (.cells #[.int .u16 (nx.toNat : Int)] 22)).cell? ⟨w.heap.size + 1, 3, none⟩ = some v := fun q => (World.cell?_of_block (w := wr) (a := ⟨w.heap.size + 1, 3, none⟩) (Below.heap_alloc (wr.drewN q) _ _ (by show w.heap.size + 1 < wr.heap.size; omega))).trans hq4
          go_wp2_with fail
          go_region_law (first
            | (rw [if_pos (by rfl)]; go_simp; go_at_call 58; refine (HAK 1).out.mono ?_; rintro e w4 ⟨rfl, q4, rfl⟩; go_wp2_with fail)
            | (revert q4; intro q4; (refine step_append_grew (by rfl) (.tmp 51) (.tmp 56) 23 (by rfl) (w.heap.size + 2) 22 iW (.int .u16 0) 2 Try.underlying23 hi hz0 hz1 hz2' rfl v k _ (by rfl) ((HOq (1 + q4)).out.alloc (.cells #[b16 nx] 22)) ⟨wr.heap.size, 0, none⟩ 1 1 [b16 nx] (by rfl) (by rfl) (new_cells (wr.drewN (1 + q4)) #[b16 nx] _) (by intro u hu; simp at hu; subst hu; rfl) (by omega) (by unfold maxLen; omega) (by omega) (by show w.heap.size + 2 ≤ ((wr.drewN (1 + q4)).alloc _).heap.size; rw [World.size_alloc]; show w.heap.size + 2 ≤ wr.heap.size + 1; omega) ?_); intro v5 w5 hown5 hg5; rw [HNX.out] at hown5; have HO5 := Lib.hid hown5; have HR5 := Lib.hid (HRK.out.grewQ HO.out hg5); have hv5 := HR5.out.c 3; have hz5 := HR5.out.z 3; clear hown5 hg5; obtain ⟨a5, c5, rfl, -⟩ := Sl.of_own HO5.out))
          all_goals
            go_wp2_with fail
            go_roundw
            case rel => exact ⟨k + 1, p + 2, .slice a5 (k + 1) c5, Lib.hid (by have := HP.out; omega), by omega, by go_num, HR5.out.set 3 _, ownsRow_setCell_below HO5.out (by simp) _⟩
            case measure => simp [intOf]; omega
        · have t3 : decide ((p : Int) + 1 < (n : Int)) = false := by simp; omega
          have hall : (numsN (l.drop 2)).take k = numsN (l.drop 2) := List.take_of_length_le (by rw [length_numsN, List.length_drop, HLN.out]; omega)
          have ho := HO.out
          rw [hall] at ho
          obtain ⟨a5, c5, rfl, hs5⟩ := Sl.of_own ho
          have hk5 := hs5.len
          have HUP := Lib.hid (fun x (hx : a5 = some x) => (ho.lt x.block (by rw [hx]; rfl)).1)
          have HQ : Hid (RQR w wr cand a5 c5 none 0) := Lib.hid (by
            rw [HE.out]
            refine ⟨?_, ⟨hs5.norm, Sl.none_⟩, fun x hx => ?_, by have := HLN.out; simp only [length_numsN, List.length_drop]; omega, by simp⟩
            · have h := HRK.out
              rw [← hk5] at h
              exact h
            · rcases hx with hx | hx
              · have := HUP.out x hx; omega
              · cases hx)
          have hxx0 := HRK.out.c 0
          clear hs5 ho HO hall HRK HUP HE hk5 hp hgz
          generalize wr = W3 at *
          go_upto_region 28 with fail
          clear hxx0
          have HFEW := HQ.out.few
          have HBY := Lib.hid (rRBytes_any cand a5 c5 none 0 W3 HQ.out.at_ HFEW.1 HFEW.2)
          obtain ⟨qf, qe, bs, ws, qa, qm⟩ := cand
          simp only at HFEW
          have hx := fun o => HQ.out.box.c o
          go_wp2_with fail
          clear hx
          rcases HCP.out with ⟨h1, h2⟩ | ⟨h1, h2⟩
          · rw [h2] at HBY
            refine HBY.out.mono ?_
            rintro e w4 ⟨a9, c9, rfl, hs4, hb4, -⟩
            have HR4 := Lib.hid (HQ.out.on hb4)
            have tx1 := hs4.text (P := Try.prog) Try.underlying27 Try.underlying5 Try.underlying9
            have tx2 := (HS0.out.below HR4.out.box.below (Nat.le_refl _)).text (P := Try.prog) Try.underlying27 Try.underlying5 Try.underlying9
            have hse : ((str l).toList == (str l).toList) = true := by simp
            have hx := fun o => HR4.out.box.c o
            have H1 := Lib.hid h1
            clear hs4 hb4 HBY h1 h2 HCP HQ
            go_wp2_with (refine wpList_store_row rfl 45 (.tmp 2) (.tmp 107) rfl w.heap.size #[b8 qf, b8 qe, .slice none bs.length 0, .slice a5 ws.length c5, b16 qa, b16 qm] rfl rfl 45 zeroRC HR4.out.box.zero (by kernel_rfl) (by kernel_rfl) (by kernel_rfl) ?_)
            exact bodyPost_ret (v := .tuple #[repV ⟨qf, qe, bs, ws, qa, qm⟩ a5 c5 none 0, .int .i64 0]) (results_cell_row_tmp rfl _ _ w.heap.size 45 _ (0, 0) _ rfl (setRow_heap _ _ _ _ _ _ HR4.out.box.zero) Try.underlying45 rfl (by kernel_rfl) _ rfl) rfl (rparsed_some H1.out ⟨sl_row HR4.out.at_.words (fun x hx => HR4.out.up x (.inl hx)) _, sl_row HR4.out.at_.bits (fun x hx => HR4.out.up x (.inr hx)) _⟩ (below_setRow HR4.out.box.below (Nat.le_refl _) _) (fun x hx => Nat.le_of_lt (HR4.out.up x hx)))
          · have H1 := Lib.hid h1
            cases hbn : rbytesN ⟨qf, qe, bs, ws, qa, qm⟩ with
            | none =>
              rw [hbn] at HBY
              clear h1 h2 HCP hbn
              refine HBY.out.mono ?_
              rintro e w4 ⟨rfl, hb4⟩
              have HR4 := Lib.hid (HQ.out.box.on hb4)
              clear hb4 HBY HQ
              go_wp2_with (refine wpList_store_row rfl 45 (.tmp 2) (.tmp 106) rfl w.heap.size zeroRC rfl rfl 45 zeroRC HR4.out.zero (by kernel_rfl) (by kernel_rfl) (by kernel_rfl) ?_)
              exact bodyPost_ret (v := .tuple #[.agg zeroRC, .int .i64 13]) (results_cell_row_tmp rfl _ _ w.heap.size 45 zeroRC (0, 0) _ rfl (setRow_heap _ _ _ _ _ _ HR4.out.zero) Try.underlying45 rfl (by kernel_rfl) _ rfl) rfl (rparsed_none H1.out (below_setRow HR4.out.below (Nat.le_refl _) _))
            | some l2 =>
              have hne : l2 ≠ l := fun h => h2 (by rw [hbn, h])
              have hse : ((str l2).toList == (str l).toList) = false := by
                rw [beq_eq_false_iff_ne]
                intro h
                apply hne
                have h3 : (str l2).toList = (str l).toList := h
                simpa [str] using h3
              rw [hbn] at HBY
              clear h1 h2 HCP hbn hne
              refine HBY.out.mono ?_
              rintro e w4 ⟨a9, c9, rfl, hs4, hb4, -⟩
              have HR4 := Lib.hid (HQ.out.box.on hb4)
              have tx1 := hs4.text (P := Try.prog) Try.underlying27 Try.underlying5 Try.underlying9
              have tx2 := (HS0.out.below HR4.out.below (Nat.le_refl _)).text (P := Try.prog) Try.underlying27 Try.underlying5 Try.underlying9
              clear hs4 hb4 HBY HQ
              go_wp2_with (refine wpList_store_row rfl 45 (.tmp 2) (.tmp 106) rfl w.heap.size zeroRC rfl rfl 45 zeroRC HR4.out.zero (by kernel_rfl) (by kernel_rfl) (by kernel_rfl) ?_)
              exact bodyPost_ret (v := .tuple #[.agg zeroRC, .int .i64 13]) (results_cell_row_tmp rfl _ _ w.heap.size 45 zeroRC (0, 0) _ rfl (setRow_heap _ _ _ _ _ _ HR4.out.zero) Try.underlying45 rfl (by kernel_rfl) _ rfl) rfl (rparsed_none H1.out (below_setRow HR4.out.below (Nat.le_refl _) _))
    by_cases c23 : f0.toNat = 23
    · have e127 : decide ((127 : Int) < (f0.toNat : Int)) = false := by simp; omega
      have e1 : ((f0.toNat : Int) == 1) = false := by simp; omega
      have e2 : ((f0.toNat : Int) == 2) = false := by simp; omega
      have e3 : ((f0.toNat : Int) == 3) = false := by simp; omega
      have e4 : ((f0.toNat : Int) == 4) = false := by simp; omega
      have e23 : ((f0.toNat : Int) == 23) = true := by simp; omega
      have e5 : ((f0.toNat : Int) == 5) = false := by simp; omega
      have e6 : ((f0.toNat : Int) == 6) = false := by simp; omega
      have e15 : ((f0.toNat : Int) == 15) = false := by simp; omega
      have e16 : ((f0.toNat : Int) == 16) = false := by simp; omega
      have hcand : cand = ⟨f0, 0, [], numsN (l.drop 2), 0, 0⟩ := by rw [HCD.out]; simp [c23]
      have HE := Lib.hid hcand
      clear hcand HCD c128 c1 c2 c3 c4 c23
      go_enter Try.func28, Try.ntmps28
      go_wp2_with fail
      generalize (w.alloc (.cells zeroRC 45)).alloc (.cells #[.int .u8 (f0.toNat : Int), .int .u8 0, .slice none 0 0, .slice none 0 0, .int .u16 0, .int .u16 0] 45) = W2 at *
      go_loopw [5] (fun i wr => ∃ (k p : Nat) (v : Value), Hid (p = 2 + 2 * k) ∧ p ≤ n + 2 ∧ i = .int .i64 (p : Int) ∧ RBR w wr (w.heap.size + 1) #[.int .u8 (f0.toNat : Int), .int .u8 0, .slice none 0 0, v, .int .u16 0, .int .u16 0] ∧ wr.ownsRow (w.heap.size + 2) 22 1 v k (((numsN (l.drop 2)).take k).map b16)) (fun i _ => n + 4 - (intOf i).toNat)
      case atStart => exact ⟨0, 2, .slice none 0 0, Lib.hid rfl, by omega, rfl, HRB.out, by simpa using World.ownsRow_nil _ _ _ _⟩
      case round =>
        obtain ⟨k, p, v, HP, hpn, rfl, hrb, ho⟩ := hrel
        have HRK := Lib.hid hrb
        have HO := Lib.hid ho
        have hgz := hrb.glt
        have hp := HP.out
        clear hrb ho HRB hv hz yy0 yy1 y0
        by_cases hlt : p + 1 < n
        · have t3 : decide ((p : Int) + 1 < (n : Int)) = true := by simp; omega
          have HAK := fun q => Lib.hid (rAt_i w.heap.size (some ⟨bb, off, none⟩) n c l p (p : Int) rfl (wr.drewN q) ((HS0.out.below HRK.out.below (Nat.le_refl _)).drawn q) (by omega))
          have HOq := fun q => Lib.hid (show (wr.drewN q).ownsRow (w.heap.size + 2) 22 1 v k (((numsN (l.drop 2)).take k).map b16) from HO.out)
          have hwk : IntKind.u16.wrap ((at16 l p).toNat : Int) = ((at16 l p).toNat : Int) := IntWalk.u16_in _ (by have := (at16 l p).toNat_lt; omega)
          have HNX : Hid (((numsN (l.drop 2)).take k).map b16 ++ [b16 (at16 l p)] = ((numsN (l.drop 2)).take (k + 1)).map b16) := Lib.hid (by rw [hp]; exact nums_next (by rw [HLN.out]; omega))
          obtain ⟨iW, hi, hz0, hz1, hz2⟩ := info_parts info16
          have hz2' : iW.bytes = 2 := hz2
          have hkn : k ≤ n := by omega
          have hq4 : wr.cell? ⟨w.heap.size + 1, 3, none⟩ = some v := HRK.out.c 3
          have hgne : ¬ w.heap.size + 1 = wr.heap.size := by omega
          clear hp
          generalize at16 l p = nx at *
          have hqq : ∀ q, ((wr.drewN q).alloc (.cells #[.int .u16 (nx.toNat : Int)] 22)).cell? ⟨w.heap.size + 1, 3, none⟩ = some v := fun q => (World.cell?_of_block (w := wr) (a := ⟨w.heap.size + 1, 3, none⟩) (Below.heap_alloc (wr.drewN q) _ _ (by show w.heap.size + 1 < wr.heap.size; omega))).trans hq4
          go_wp2_with fail
          go_region_law (first
            | (rw [if_pos (by rfl)]; go_simp; go_at_call 58; refine (HAK 1).out.mono ?_; rintro e w4 ⟨rfl, q4, rfl⟩; go_wp2_with fail)
            | (revert q4; intro q4; (refine step_append_grew (by rfl) (.tmp 51) (.tmp 56) 23 (by rfl) (w.heap.size + 2) 22 iW (.int .u16 0) 2 Try.underlying23 hi hz0 hz1 hz2' rfl v k _ (by rfl) ((HOq (1 + q4)).out.alloc (.cells #[b16 nx] 22)) ⟨wr.heap.size, 0, none⟩ 1 1 [b16 nx] (by rfl) (by rfl) (new_cells (wr.drewN (1 + q4)) #[b16 nx] _) (by intro u hu; simp at hu; subst hu; rfl) (by omega) (by unfold maxLen; omega) (by omega) (by show w.heap.size + 2 ≤ ((wr.drewN (1 + q4)).alloc _).heap.size; rw [World.size_alloc]; show w.heap.size + 2 ≤ wr.heap.size + 1; omega) ?_); intro v5 w5 hown5 hg5; rw [HNX.out] at hown5; have HO5 := Lib.hid hown5; have HR5 := Lib.hid (HRK.out.grewQ HO.out hg5); have hv5 := HR5.out.c 3; have hz5 := HR5.out.z 3; clear hown5 hg5; obtain ⟨a5, c5, rfl, -⟩ := Sl.of_own HO5.out))
          all_goals
            go_wp2_with fail
            go_roundw
            case rel => exact ⟨k + 1, p + 2, .slice a5 (k + 1) c5, Lib.hid (by have := HP.out; omega), by omega, by go_num, HR5.out.set 3 _, ownsRow_setCell_below HO5.out (by simp) _⟩
            case measure => simp [intOf]; omega
        · have t3 : decide ((p : Int) + 1 < (n : Int)) = false := by simp; omega
          have hall : (numsN (l.drop 2)).take k = numsN (l.drop 2) := List.take_of_length_le (by rw [length_numsN, List.length_drop, HLN.out]; omega)
          have ho := HO.out
          rw [hall] at ho
          obtain ⟨a5, c5, rfl, hs5⟩ := Sl.of_own ho
          have hk5 := hs5.len
          have HUP := Lib.hid (fun x (hx : a5 = some x) => (ho.lt x.block (by rw [hx]; rfl)).1)
          have HQ : Hid (RQR w wr cand a5 c5 none 0) := Lib.hid (by
            rw [HE.out]
            refine ⟨?_, ⟨hs5.norm, Sl.none_⟩, fun x hx => ?_, by have := HLN.out; simp only [length_numsN, List.length_drop]; omega, by simp⟩
            · have h := HRK.out
              rw [← hk5] at h
              exact h
            · rcases hx with hx | hx
              · have := HUP.out x hx; omega
              · cases hx)
          have hxx0 := HRK.out.c 0
          clear hs5 ho HO hall HRK HUP HE hk5 hp hgz
          generalize wr = W3 at *
          go_upto_region 28 with fail
          clear hxx0
          have HFEW := HQ.out.few
          have HBY := Lib.hid (rRBytes_any cand a5 c5 none 0 W3 HQ.out.at_ HFEW.1 HFEW.2)
          obtain ⟨qf, qe, bs, ws, qa, qm⟩ := cand
          simp only at HFEW
          have hx := fun o => HQ.out.box.c o
          go_wp2_with fail
          clear hx
          rcases HCP.out with ⟨h1, h2⟩ | ⟨h1, h2⟩
          · rw [h2] at HBY
            refine HBY.out.mono ?_
            rintro e w4 ⟨a9, c9, rfl, hs4, hb4, -⟩
            have HR4 := Lib.hid (HQ.out.on hb4)
            have tx1 := hs4.text (P := Try.prog) Try.underlying27 Try.underlying5 Try.underlying9
            have tx2 := (HS0.out.below HR4.out.box.below (Nat.le_refl _)).text (P := Try.prog) Try.underlying27 Try.underlying5 Try.underlying9
            have hse : ((str l).toList == (str l).toList) = true := by simp
            have hx := fun o => HR4.out.box.c o
            have H1 := Lib.hid h1
            clear hs4 hb4 HBY h1 h2 HCP HQ
            go_wp2_with (refine wpList_store_row rfl 45 (.tmp 2) (.tmp 107) rfl w.heap.size #[b8 qf, b8 qe, .slice none bs.length 0, .slice a5 ws.length c5, b16 qa, b16 qm] rfl rfl 45 zeroRC HR4.out.box.zero (by kernel_rfl) (by kernel_rfl) (by kernel_rfl) ?_)
            exact bodyPost_ret (v := .tuple #[repV ⟨qf, qe, bs, ws, qa, qm⟩ a5 c5 none 0, .int .i64 0]) (results_cell_row_tmp rfl _ _ w.heap.size 45 _ (0, 0) _ rfl (setRow_heap _ _ _ _ _ _ HR4.out.box.zero) Try.underlying45 rfl (by kernel_rfl) _ rfl) rfl (rparsed_some H1.out ⟨sl_row HR4.out.at_.words (fun x hx => HR4.out.up x (.inl hx)) _, sl_row HR4.out.at_.bits (fun x hx => HR4.out.up x (.inr hx)) _⟩ (below_setRow HR4.out.box.below (Nat.le_refl _) _) (fun x hx => Nat.le_of_lt (HR4.out.up x hx)))
          · have H1 := Lib.hid h1
            cases hbn : rbytesN ⟨qf, qe, bs, ws, qa, qm⟩ with
            | none =>
              rw [hbn] at HBY
              clear h1 h2 HCP hbn
              refine HBY.out.mono ?_
              rintro e w4 ⟨rfl, hb4⟩
              have HR4 := Lib.hid (HQ.out.box.on hb4)
              clear hb4 HBY HQ
              go_wp2_with (refine wpList_store_row rfl 45 (.tmp 2) (.tmp 106) rfl w.heap.size zeroRC rfl rfl 45 zeroRC HR4.out.zero (by kernel_rfl) (by kernel_rfl) (by kernel_rfl) ?_)
              exact bodyPost_ret (v := .tuple #[.agg zeroRC, .int .i64 13]) (results_cell_row_tmp rfl _ _ w.heap.size 45 zeroRC (0, 0) _ rfl (setRow_heap _ _ _ _ _ _ HR4.out.zero) Try.underlying45 rfl (by kernel_rfl) _ rfl) rfl (rparsed_none H1.out (below_setRow HR4.out.below (Nat.le_refl _) _))
            | some l2 =>
              have hne : l2 ≠ l := fun h => h2 (by rw [hbn, h])
              have hse : ((str l2).toList == (str l).toList) = false := by
                rw [beq_eq_false_iff_ne]
                intro h
                apply hne
                have h3 : (str l2).toList = (str l).toList := h
                simpa [str] using h3
              rw [hbn] at HBY
              clear h1 h2 HCP hbn hne
              refine HBY.out.mono ?_
              rintro e w4 ⟨a9, c9, rfl, hs4, hb4, -⟩
              have HR4 := Lib.hid (HQ.out.box.on hb4)
              have tx1 := hs4.text (P := Try.prog) Try.underlying27 Try.underlying5 Try.underlying9
              have tx2 := (HS0.out.below HR4.out.below (Nat.le_refl _)).text (P := Try.prog) Try.underlying27 Try.underlying5 Try.underlying9
              clear hs4 hb4 HBY HQ
              go_wp2_with (refine wpList_store_row rfl 45 (.tmp 2) (.tmp 106) rfl w.heap.size zeroRC rfl rfl 45 zeroRC HR4.out.zero (by kernel_rfl) (by kernel_rfl) (by kernel_rfl) ?_)
              exact bodyPost_ret (v := .tuple #[.agg zeroRC, .int .i64 13]) (results_cell_row_tmp rfl _ _ w.heap.size 45 zeroRC (0, 0) _ rfl (setRow_heap _ _ _ _ _ _ HR4.out.zero) Try.underlying45 rfl (by kernel_rfl) _ rfl) rfl (rparsed_none H1.out (below_setRow HR4.out.below (Nat.le_refl _) _))
    by_cases c5 : f0.toNat = 5
    · have e127 : decide ((127 : Int) < (f0.toNat : Int)) = false := by simp; omega
      have e1 : ((f0.toNat : Int) == 1) = false := by simp; omega
      have e2 : ((f0.toNat : Int) == 2) = false := by simp; omega
      have e3 : ((f0.toNat : Int) == 3) = false := by simp; omega
      have e4 : ((f0.toNat : Int) == 4) = false := by simp; omega
      have e23 : ((f0.toNat : Int) == 23) = false := by simp; omega
      have e5 : ((f0.toNat : Int) == 5) = true := by simp; omega
      have e6 : ((f0.toNat : Int) == 6) = false := by simp; omega
      have e15 : ((f0.toNat : Int) == 15) = false := by simp; omega
      have e16 : ((f0.toNat : Int) == 16) = false := by simp; omega
      have hcand : cand = ⟨f0, 0, [decide (at16 l 3 = 65280)], [], at16 l 1, 0⟩ := by rw [HCD.out]; simp [c5]
      have HE := Lib.hid hcand
      clear hcand HCD c128 c1 c2 c3 c4 c23 c5
      have hq : (((at16 l 3).toNat : Int) == 65280) = decide (at16 l 3 = 65280) := by
        rw [Bool.eq_iff_iff]
        simp only [beq_iff_eq, decide_eq_true_eq]
        constructor
        · intro h; apply UInt16.toNat_inj.1; have h2 : (65280 : UInt16).toNat = 65280 := rfl; omega
        · intro h; rw [h]; rfl
      have HQ5 := Lib.hid hq
      generalize hdd : decide (at16 l 3 = 65280) = dd at *
      clear hdd
      have HA1 := Lib.hid (rAt_i w.heap.size (some ⟨bb, off, none⟩) n c l 1 1 rfl ((w.alloc (.cells zeroRC 45)).alloc (.cells #[.int .u8 (f0.toNat : Int), .int .u8 0, .slice none 0 0, .slice none 0 0, .int .u16 0, .int .u16 0] 45)) (HS0.out.below HRB.out.below (Nat.le_refl _)) (by omega))
      go_enter Try.func28, Try.ntmps28
      go_wp2_with fail
      generalize (w.alloc (.cells zeroRC 45)).alloc (.cells #[.int .u8 (f0.toNat : Int), .int .u8 0, .slice none 0 0, .slice none 0 0, .int .u16 0, .int .u16 0] 45) = W2 at *
      refine HA1.out.mono ?_
      rintro e w3 ⟨rfl, q1, rfl⟩
      have HRX := Lib.hid (HRB.out.on (below_drawn (Below.refl _ W2) q1))
      have hw0 := HRX.out.c 4
      have hwz := HRX.out.z 4
      have HRY := Lib.hid (HRX.out.set 4 (.int .u16 ((at16 l 1).toNat : Int)))
      have HA3 := Lib.hid (rAt_i w.heap.size (some ⟨bb, off, none⟩) n c l 3 3 rfl ((W2.drewN q1).setCell ⟨w.heap.size + 1, 4, none⟩ (.int .u16 ((at16 l 1).toNat : Int))) (HS0.out.below HRY.out.below (Nat.le_refl _)) (by omega))
      clear HA1 hv hz yy0 yy1 y0
      go_wp2_with fail
      clear hw0 hwz
      generalize (W2.drewN q1).setCell ⟨w.heap.size + 1, 4, none⟩ (.int .u16 ((at16 l 1).toNat : Int)) = WY at *
      refine HA3.out.mono ?_
      rintro e w3 ⟨rfl, q3, rfl⟩
      clear HA3 HRX HRB
      have HR2 := Lib.hid ((HRY.out.on (below_drawn (Below.refl _ _) q3)).on ((Below.refl _ _).alloc (Nat.le_refl _) (.cells #[.bool dd] 4)))
      have hw0 := HR2.out.c 2
      have hwz := HR2.out.z 2
      have hxx0 := (HR2.out.set 2 (.slice (some ⟨WY.heap.size, 0, none⟩) 1 1)).c 0
      have HQ : Hid (RQR w (((WY.drewN q3).alloc (.cells #[.bool dd] 4)).setCell ⟨w.heap.size + 1, 2, none⟩ (.slice (some ⟨WY.heap.size, 0, none⟩) 1 1)) cand none 0 (some ⟨WY.heap.size, 0, none⟩) 1) := Lib.hid (by
        rw [HE.out]
        refine ⟨HR2.out.set 2 _, ⟨Sl.none_, ?_⟩, fun x hx => ?_, by simp⟩
        · have h := (Sl.new (f := Value.bool) (WY.drewN q3) #[.bool dd] 4 (0, 0) [dd] 1 rfl rfl (by omega)).set (g := w.heap.size + 1) (i := 2) (v := .slice (some ⟨WY.heap.size, 0, none⟩) 1 1) (fun x hx => by injection hx with hx; subst hx; have := HRY.out.glt; show WY.heap.size ≠ _; omega)
          rw [World.size_setCell]
          exact h
        · rcases hx with hx | hx
          · cases hx
          · injection hx with hx; subst hx; have := HRY.out.glt; have := HRY.out.lt; show w.heap.size < WY.heap.size; omega)
      clear HE
      go_upto_region 28 with fail
      clear hw0 hwz hxx0 HR2 HRY
      generalize ((WY.drewN q3).alloc (.cells #[.bool dd] 4)).setCell ⟨w.heap.size + 1, 2, none⟩ (.slice (some ⟨WY.heap.size, 0, none⟩) 1 1) = W3 at *
      have HFEW := HQ.out.few
      have HBY := Lib.hid (rRBytes_any cand none 0 (some ⟨WY.heap.size, 0, none⟩) 1 W3 HQ.out.at_ HFEW.1 HFEW.2)
      obtain ⟨qf, qe, bs, ws, qa, qm⟩ := cand
      simp only at HFEW
      have hx := fun o => HQ.out.box.c o
      go_wp2_with fail
      clear hx
      rcases HCP.out with ⟨h1, h2⟩ | ⟨h1, h2⟩
      · rw [h2] at HBY
        refine HBY.out.mono ?_
        rintro e w4 ⟨a9, c9, rfl, hs4, hb4, -⟩
        have HR4 := Lib.hid (HQ.out.on hb4)
        have tx1 := hs4.text (P := Try.prog) Try.underlying27 Try.underlying5 Try.underlying9
        have tx2 := (HS0.out.below HR4.out.box.below (Nat.le_refl _)).text (P := Try.prog) Try.underlying27 Try.underlying5 Try.underlying9
        have hse : ((str l).toList == (str l).toList) = true := by simp
        have hx := fun o => HR4.out.box.c o
        have H1 := Lib.hid h1
        clear hs4 hb4 HBY h1 h2 HCP HQ
        go_wp2_with (refine wpList_store_row rfl 45 (.tmp 2) (.tmp 107) rfl w.heap.size #[b8 qf, b8 qe, .slice (some ⟨WY.heap.size, 0, none⟩) bs.length 1, .slice none ws.length 0, b16 qa, b16 qm] rfl rfl 45 zeroRC HR4.out.box.zero (by kernel_rfl) (by kernel_rfl) (by kernel_rfl) ?_)
        exact bodyPost_ret (v := .tuple #[repV ⟨qf, qe, bs, ws, qa, qm⟩ none 0 (some ⟨WY.heap.size, 0, none⟩) 1, .int .i64 0]) (results_cell_row_tmp rfl _ _ w.heap.size 45 _ (0, 0) _ rfl (setRow_heap _ _ _ _ _ _ HR4.out.box.zero) Try.underlying45 rfl (by kernel_rfl) _ rfl) rfl (rparsed_some H1.out ⟨sl_row HR4.out.at_.words (fun x hx => HR4.out.up x (.inl hx)) _, sl_row HR4.out.at_.bits (fun x hx => HR4.out.up x (.inr hx)) _⟩ (below_setRow HR4.out.box.below (Nat.le_refl _) _) (fun x hx => Nat.le_of_lt (HR4.out.up x hx)))
      · have H1 := Lib.hid h1
        cases hbn : rbytesN ⟨qf, qe, bs, ws, qa, qm⟩ with
        | none =>
          rw [hbn] at HBY
          clear h1 h2 HCP hbn
          refine HBY.out.mono ?_
          rintro e w4 ⟨rfl, hb4⟩
          have HR4 := Lib.hid (HQ.out.box.on hb4)
          clear hb4 HBY HQ
          go_wp2_with (refine wpList_store_row rfl 45 (.tmp 2) (.tmp 106) rfl w.heap.size zeroRC rfl rfl 45 zeroRC HR4.out.zero (by kernel_rfl) (by kernel_rfl) (by kernel_rfl) ?_)
          exact bodyPost_ret (v := .tuple #[.agg zeroRC, .int .i64 13]) (results_cell_row_tmp rfl _ _ w.heap.size 45 zeroRC (0, 0) _ rfl (setRow_heap _ _ _ _ _ _ HR4.out.zero) Try.underlying45 rfl (by kernel_rfl) _ rfl) rfl (rparsed_none H1.out (below_setRow HR4.out.below (Nat.le_refl _) _))
        | some l2 =>
          have hne : l2 ≠ l := fun h => h2 (by rw [hbn, h])
          have hse : ((str l2).toList == (str l).toList) = false := by
            rw [beq_eq_false_iff_ne]
            intro h
            apply hne
            have h3 : (str l2).toList = (str l).toList := h
            simpa [str] using h3
          rw [hbn] at HBY
          clear h1 h2 HCP hbn hne
          refine HBY.out.mono ?_
          rintro e w4 ⟨a9, c9, rfl, hs4, hb4, -⟩
          have HR4 := Lib.hid (HQ.out.box.on hb4)
          have tx1 := hs4.text (P := Try.prog) Try.underlying27 Try.underlying5 Try.underlying9
          have tx2 := (HS0.out.below HR4.out.below (Nat.le_refl _)).text (P := Try.prog) Try.underlying27 Try.underlying5 Try.underlying9
          clear hs4 hb4 HBY HQ
          go_wp2_with (refine wpList_store_row rfl 45 (.tmp 2) (.tmp 106) rfl w.heap.size zeroRC rfl rfl 45 zeroRC HR4.out.zero (by kernel_rfl) (by kernel_rfl) (by kernel_rfl) ?_)
          exact bodyPost_ret (v := .tuple #[.agg zeroRC, .int .i64 13]) (results_cell_row_tmp rfl _ _ w.heap.size 45 zeroRC (0, 0) _ rfl (setRow_heap _ _ _ _ _ _ HR4.out.zero) Try.underlying45 rfl (by kernel_rfl) _ rfl) rfl (rparsed_none H1.out (below_setRow HR4.out.below (Nat.le_refl _) _))
    by_cases c6 : f0.toNat = 6
    · have e127 : decide ((127 : Int) < (f0.toNat : Int)) = false := by simp; omega
      have e1 : ((f0.toNat : Int) == 1) = false := by simp; omega
      have e2 : ((f0.toNat : Int) == 2) = false := by simp; omega
      have e3 : ((f0.toNat : Int) == 3) = false := by simp; omega
      have e4 : ((f0.toNat : Int) == 4) = false := by simp; omega
      have e23 : ((f0.toNat : Int) == 23) = false := by simp; omega
      have e5 : ((f0.toNat : Int) == 5) = false := by simp; omega
      have e6 : ((f0.toNat : Int) == 6) = true := by simp; omega
      have e15 : ((f0.toNat : Int) == 15) = false := by simp; omega
      have e16 : ((f0.toNat : Int) == 16) = false := by simp; omega
      have hcand : cand = ⟨f0, 0, [], [at16 l 3], at16 l 1, 0⟩ := by rw [HCD.out]; simp [c6]
      have HE := Lib.hid hcand
      clear hcand HCD c128 c1 c2 c3 c4 c23 c5 c6
      have HA1 := Lib.hid (rAt_i w.heap.size (some ⟨bb, off, none⟩) n c l 1 1 rfl ((w.alloc (.cells zeroRC 45)).alloc (.cells #[.int .u8 (f0.toNat : Int), .int .u8 0, .slice none 0 0, .slice none 0 0, .int .u16 0, .int .u16 0] 45)) (HS0.out.below HRB.out.below (Nat.le_refl _)) (by omega))
      go_enter Try.func28, Try.ntmps28
      go_wp2_with fail
      generalize (w.alloc (.cells zeroRC 45)).alloc (.cells #[.int .u8 (f0.toNat : Int), .int .u8 0, .slice none 0 0, .slice none 0 0, .int .u16 0, .int .u16 0] 45) = W2 at *
      refine HA1.out.mono ?_
      rintro e w3 ⟨rfl, q1, rfl⟩
      have HRX := Lib.hid (HRB.out.on (below_drawn (Below.refl _ W2) q1))
      have hw0 := HRX.out.c 4
      have hwz := HRX.out.z 4
      have HRY := Lib.hid (HRX.out.set 4 (.int .u16 ((at16 l 1).toNat : Int)))
      have HA3 := Lib.hid (rAt_i w.heap.size (some ⟨bb, off, none⟩) n c l 3 3 rfl ((W2.drewN q1).setCell ⟨w.heap.size + 1, 4, none⟩ (.int .u16 ((at16 l 1).toNat : Int))) (HS0.out.below HRY.out.below (Nat.le_refl _)) (by omega))
      clear HA1 hv hz yy0 yy1 y0
      go_wp2_with fail
      clear hw0 hwz
      generalize (W2.drewN q1).setCell ⟨w.heap.size + 1, 4, none⟩ (.int .u16 ((at16 l 1).toNat : Int)) = WY at *
      refine HA3.out.mono ?_
      rintro e w3 ⟨rfl, q3, rfl⟩
      clear HA3 HRX HRB
      have HR2 := Lib.hid ((HRY.out.on (below_drawn (Below.refl _ _) q3)).on ((Below.refl _ _).alloc (Nat.le_refl _) (.cells #[.int .u16 ((at16 l 3).toNat : Int)] 22)))
      have hw0 := HR2.out.c 3
      have hwz := HR2.out.z 3
      have hxx0 := (HR2.out.set 3 (.slice (some ⟨WY.heap.size, 0, none⟩) 1 1)).c 0
      have HQ : Hid (RQR w (((WY.drewN q3).alloc (.cells #[.int .u16 ((at16 l 3).toNat : Int)] 22)).setCell ⟨w.heap.size + 1, 3, none⟩ (.slice (some ⟨WY.heap.size, 0, none⟩) 1 1)) cand (some ⟨WY.heap.size, 0, none⟩) 1 none 0) := Lib.hid (by
        rw [HE.out]
        refine ⟨HR2.out.set 3 _, ⟨?_, Sl.none_⟩, fun x hx => ?_, by simp⟩
        · have h := (Sl.new (f := b16) (WY.drewN q3) #[.int .u16 ((at16 l 3).toNat : Int)] 22 (0, 0) [at16 l 3] 1 rfl rfl (by omega)).set (g := w.heap.size + 1) (i := 3) (v := .slice (some ⟨WY.heap.size, 0, none⟩) 1 1) (fun x hx => by injection hx with hx; subst hx; have := HRY.out.glt; show WY.heap.size ≠ _; omega)
          rw [World.size_setCell]
          exact h
        · rcases hx with hx | hx
          · injection hx with hx; subst hx; have := HRY.out.glt; have := HRY.out.lt; show w.heap.size < WY.heap.size; omega
          · cases hx)
      clear HE
      go_upto_region 28 with fail
      clear hw0 hwz hxx0 HR2 HRY
      generalize ((WY.drewN q3).alloc (.cells #[.int .u16 ((at16 l 3).toNat : Int)] 22)).setCell ⟨w.heap.size + 1, 3, none⟩ (.slice (some ⟨WY.heap.size, 0, none⟩) 1 1) = W3 at *
      have HFEW := HQ.out.few
      have HBY := Lib.hid (rRBytes_any cand (some ⟨WY.heap.size, 0, none⟩) 1 none 0 W3 HQ.out.at_ HFEW.1 HFEW.2)
      obtain ⟨qf, qe, bs, ws, qa, qm⟩ := cand
      simp only at HFEW
      have hx := fun o => HQ.out.box.c o
      go_wp2_with fail
      clear hx
      rcases HCP.out with ⟨h1, h2⟩ | ⟨h1, h2⟩
      · rw [h2] at HBY
        refine HBY.out.mono ?_
        rintro e w4 ⟨a9, c9, rfl, hs4, hb4, -⟩
        have HR4 := Lib.hid (HQ.out.on hb4)
        have tx1 := hs4.text (P := Try.prog) Try.underlying27 Try.underlying5 Try.underlying9
        have tx2 := (HS0.out.below HR4.out.box.below (Nat.le_refl _)).text (P := Try.prog) Try.underlying27 Try.underlying5 Try.underlying9
        have hse : ((str l).toList == (str l).toList) = true := by simp
        have hx := fun o => HR4.out.box.c o
        have H1 := Lib.hid h1
        clear hs4 hb4 HBY h1 h2 HCP HQ
        go_wp2_with (refine wpList_store_row rfl 45 (.tmp 2) (.tmp 107) rfl w.heap.size #[b8 qf, b8 qe, .slice none bs.length 0, .slice (some ⟨WY.heap.size, 0, none⟩) ws.length 1, b16 qa, b16 qm] rfl rfl 45 zeroRC HR4.out.box.zero (by kernel_rfl) (by kernel_rfl) (by kernel_rfl) ?_)
        exact bodyPost_ret (v := .tuple #[repV ⟨qf, qe, bs, ws, qa, qm⟩ (some ⟨WY.heap.size, 0, none⟩) 1 none 0, .int .i64 0]) (results_cell_row_tmp rfl _ _ w.heap.size 45 _ (0, 0) _ rfl (setRow_heap _ _ _ _ _ _ HR4.out.box.zero) Try.underlying45 rfl (by kernel_rfl) _ rfl) rfl (rparsed_some H1.out ⟨sl_row HR4.out.at_.words (fun x hx => HR4.out.up x (.inl hx)) _, sl_row HR4.out.at_.bits (fun x hx => HR4.out.up x (.inr hx)) _⟩ (below_setRow HR4.out.box.below (Nat.le_refl _) _) (fun x hx => Nat.le_of_lt (HR4.out.up x hx)))
      · have H1 := Lib.hid h1
        cases hbn : rbytesN ⟨qf, qe, bs, ws, qa, qm⟩ with
        | none =>
          rw [hbn] at HBY
          clear h1 h2 HCP hbn
          refine HBY.out.mono ?_
          rintro e w4 ⟨rfl, hb4⟩
          have HR4 := Lib.hid (HQ.out.box.on hb4)
          clear hb4 HBY HQ
          go_wp2_with (refine wpList_store_row rfl 45 (.tmp 2) (.tmp 106) rfl w.heap.size zeroRC rfl rfl 45 zeroRC HR4.out.zero (by kernel_rfl) (by kernel_rfl) (by kernel_rfl) ?_)
          exact bodyPost_ret (v := .tuple #[.agg zeroRC, .int .i64 13]) (results_cell_row_tmp rfl _ _ w.heap.size 45 zeroRC (0, 0) _ rfl (setRow_heap _ _ _ _ _ _ HR4.out.zero) Try.underlying45 rfl (by kernel_rfl) _ rfl) rfl (rparsed_none H1.out (below_setRow HR4.out.below (Nat.le_refl _) _))
        | some l2 =>
          have hne : l2 ≠ l := fun h => h2 (by rw [hbn, h])
          have hse : ((str l2).toList == (str l).toList) = false := by
            rw [beq_eq_false_iff_ne]
            intro h
            apply hne
            have h3 : (str l2).toList = (str l).toList := h
            simpa [str] using h3
          rw [hbn] at HBY
          clear h1 h2 HCP hbn hne
          refine HBY.out.mono ?_
          rintro e w4 ⟨a9, c9, rfl, hs4, hb4, -⟩
          have HR4 := Lib.hid (HQ.out.box.on hb4)
          have tx1 := hs4.text (P := Try.prog) Try.underlying27 Try.underlying5 Try.underlying9
          have tx2 := (HS0.out.below HR4.out.below (Nat.le_refl _)).text (P := Try.prog) Try.underlying27 Try.underlying5 Try.underlying9
          clear hs4 hb4 HBY HQ
          go_wp2_with (refine wpList_store_row rfl 45 (.tmp 2) (.tmp 106) rfl w.heap.size zeroRC rfl rfl 45 zeroRC HR4.out.zero (by kernel_rfl) (by kernel_rfl) (by kernel_rfl) ?_)
          exact bodyPost_ret (v := .tuple #[.agg zeroRC, .int .i64 13]) (results_cell_row_tmp rfl _ _ w.heap.size 45 zeroRC (0, 0) _ rfl (setRow_heap _ _ _ _ _ _ HR4.out.zero) Try.underlying45 rfl (by kernel_rfl) _ rfl) rfl (rparsed_none H1.out (below_setRow HR4.out.below (Nat.le_refl _) _))
    by_cases c15 : f0.toNat = 15
    · have e127 : decide ((127 : Int) < (f0.toNat : Int)) = false := by simp; omega
      have e1 : ((f0.toNat : Int) == 1) = false := by simp; omega
      have e2 : ((f0.toNat : Int) == 2) = false := by simp; omega
      have e3 : ((f0.toNat : Int) == 3) = false := by simp; omega
      have e4 : ((f0.toNat : Int) == 4) = false := by simp; omega
      have e23 : ((f0.toNat : Int) == 23) = false := by simp; omega
      have e5 : ((f0.toNat : Int) == 5) = false := by simp; omega
      have e6 : ((f0.toNat : Int) == 6) = false := by simp; omega
      have e15 : ((f0.toNat : Int) == 15) = true := by simp; omega
      have e16 : ((f0.toNat : Int) == 16) = false := by simp; omega
      have hcand : cand = ⟨f0, 0, [], [], at16 l 1, at16 l 3⟩ := by rw [HCD.out]; simp [c15]
      have HE := Lib.hid hcand
      clear hcand HCD c128 c1 c2 c3 c4 c23 c5 c6 c15
      have HA1 := Lib.hid (rAt_i w.heap.size (some ⟨bb, off, none⟩) n c l 1 1 rfl ((w.alloc (.cells zeroRC 45)).alloc (.cells #[.int .u8 (f0.toNat : Int), .int .u8 0, .slice none 0 0, .slice none 0 0, .int .u16 0, .int .u16 0] 45)) (HS0.out.below HRB.out.below (Nat.le_refl _)) (by omega))
      go_enter Try.func28, Try.ntmps28
      go_wp2_with fail
      generalize (w.alloc (.cells zeroRC 45)).alloc (.cells #[.int .u8 (f0.toNat : Int), .int .u8 0, .slice none 0 0, .slice none 0 0, .int .u16 0, .int .u16 0] 45) = W2 at *
      refine HA1.out.mono ?_
      rintro e w3 ⟨rfl, q1, rfl⟩
      have HRX := Lib.hid (HRB.out.on (below_drawn (Below.refl _ W2) q1))
      have hw0 := HRX.out.c 4
      have hwz := HRX.out.z 4
      have HRY := Lib.hid (HRX.out.set 4 (.int .u16 ((at16 l 1).toNat : Int)))
      have HA3 := Lib.hid (rAt_i w.heap.size (some ⟨bb, off, none⟩) n c l 3 3 rfl ((W2.drewN q1).setCell ⟨w.heap.size + 1, 4, none⟩ (.int .u16 ((at16 l 1).toNat : Int))) (HS0.out.below HRY.out.below (Nat.le_refl _)) (by omega))
      clear HA1 hv hz yy0 yy1 y0
      go_wp2_with fail
      clear hw0 hwz
      generalize (W2.drewN q1).setCell ⟨w.heap.size + 1, 4, none⟩ (.int .u16 ((at16 l 1).toNat : Int)) = WY at *
      refine HA3.out.mono ?_
      rintro e w3 ⟨rfl, q3, rfl⟩
      clear HA3 HRX HRB
      have HR2 := Lib.hid (HRY.out.on (below_drawn (Below.refl _ _) q3))
      have hw0 := HR2.out.c 5
      have hwz := HR2.out.z 5
      have hxx0 := (HR2.out.set 5 (.int .u16 ((at16 l 3).toNat : Int))).c 0
      have HQ : Hid (RQR w ((WY.drewN q3).setCell ⟨w.heap.size + 1, 5, none⟩ (.int .u16 ((at16 l 3).toNat : Int))) cand none 0 none 0) := Lib.hid (by
        rw [HE.out]
        exact ⟨HR2.out.set 5 _, ⟨Sl.none_, Sl.none_⟩, fun x hx => (by rcases hx with hx | hx <;> cases hx), by simp⟩)
      clear HE
      go_upto_region 28 with fail
      clear hw0 hwz hxx0 HR2 HRY
      generalize (WY.drewN q3).setCell ⟨w.heap.size + 1, 5, none⟩ (.int .u16 ((at16 l 3).toNat : Int)) = W3 at *
      have HFEW := HQ.out.few
      have HBY := Lib.hid (rRBytes_any cand none 0 none 0 W3 HQ.out.at_ HFEW.1 HFEW.2)
      obtain ⟨qf, qe, bs, ws, qa, qm⟩ := cand
      simp only at HFEW
      have hx := fun o => HQ.out.box.c o
      go_wp2_with fail
      clear hx
      rcases HCP.out with ⟨h1, h2⟩ | ⟨h1, h2⟩
      · rw [h2] at HBY
        refine HBY.out.mono ?_
        rintro e w4 ⟨a9, c9, rfl, hs4, hb4, -⟩
        have HR4 := Lib.hid (HQ.out.on hb4)
        have tx1 := hs4.text (P := Try.prog) Try.underlying27 Try.underlying5 Try.underlying9
        have tx2 := (HS0.out.below HR4.out.box.below (Nat.le_refl _)).text (P := Try.prog) Try.underlying27 Try.underlying5 Try.underlying9
        have hse : ((str l).toList == (str l).toList) = true := by simp
        have hx := fun o => HR4.out.box.c o
        have H1 := Lib.hid h1
        clear hs4 hb4 HBY h1 h2 HCP HQ
        go_wp2_with (refine wpList_store_row rfl 45 (.tmp 2) (.tmp 107) rfl w.heap.size #[b8 qf, b8 qe, .slice none bs.length 0, .slice none ws.length 0, b16 qa, b16 qm] rfl rfl 45 zeroRC HR4.out.box.zero (by kernel_rfl) (by kernel_rfl) (by kernel_rfl) ?_)
        exact bodyPost_ret (v := .tuple #[repV ⟨qf, qe, bs, ws, qa, qm⟩ none 0 none 0, .int .i64 0]) (results_cell_row_tmp rfl _ _ w.heap.size 45 _ (0, 0) _ rfl (setRow_heap _ _ _ _ _ _ HR4.out.box.zero) Try.underlying45 rfl (by kernel_rfl) _ rfl) rfl (rparsed_some H1.out ⟨sl_row HR4.out.at_.words (fun x hx => HR4.out.up x (.inl hx)) _, sl_row HR4.out.at_.bits (fun x hx => HR4.out.up x (.inr hx)) _⟩ (below_setRow HR4.out.box.below (Nat.le_refl _) _) (fun x hx => Nat.le_of_lt (HR4.out.up x hx)))
      · have H1 := Lib.hid h1
        cases hbn : rbytesN ⟨qf, qe, bs, ws, qa, qm⟩ with
        | none =>
          rw [hbn] at HBY
          clear h1 h2 HCP hbn
          refine HBY.out.mono ?_
          rintro e w4 ⟨rfl, hb4⟩
          have HR4 := Lib.hid (HQ.out.box.on hb4)
          clear hb4 HBY HQ
          go_wp2_with (refine wpList_store_row rfl 45 (.tmp 2) (.tmp 106) rfl w.heap.size zeroRC rfl rfl 45 zeroRC HR4.out.zero (by kernel_rfl) (by kernel_rfl) (by kernel_rfl) ?_)
          exact bodyPost_ret (v := .tuple #[.agg zeroRC, .int .i64 13]) (results_cell_row_tmp rfl _ _ w.heap.size 45 zeroRC (0, 0) _ rfl (setRow_heap _ _ _ _ _ _ HR4.out.zero) Try.underlying45 rfl (by kernel_rfl) _ rfl) rfl (rparsed_none H1.out (below_setRow HR4.out.below (Nat.le_refl _) _))
        | some l2 =>
          have hne : l2 ≠ l := fun h => h2 (by rw [hbn, h])
          have hse : ((str l2).toList == (str l).toList) = false := by
            rw [beq_eq_false_iff_ne]
            intro h
            apply hne
            have h3 : (str l2).toList = (str l).toList := h
            simpa [str] using h3
          rw [hbn] at HBY
          clear h1 h2 HCP hbn hne
          refine HBY.out.mono ?_
          rintro e w4 ⟨a9, c9, rfl, hs4, hb4, -⟩
          have HR4 := Lib.hid (HQ.out.box.on hb4)
          have tx1 := hs4.text (P := Try.prog) Try.underlying27 Try.underlying5 Try.underlying9
          have tx2 := (HS0.out.below HR4.out.below (Nat.le_refl _)).text (P := Try.prog) Try.underlying27 Try.underlying5 Try.underlying9
          clear hs4 hb4 HBY HQ
          go_wp2_with (refine wpList_store_row rfl 45 (.tmp 2) (.tmp 106) rfl w.heap.size zeroRC rfl rfl 45 zeroRC HR4.out.zero (by kernel_rfl) (by kernel_rfl) (by kernel_rfl) ?_)
          exact bodyPost_ret (v := .tuple #[.agg zeroRC, .int .i64 13]) (results_cell_row_tmp rfl _ _ w.heap.size 45 zeroRC (0, 0) _ rfl (setRow_heap _ _ _ _ _ _ HR4.out.zero) Try.underlying45 rfl (by kernel_rfl) _ rfl) rfl (rparsed_none H1.out (below_setRow HR4.out.below (Nat.le_refl _) _))
    by_cases c16 : f0.toNat = 16
    · have e127 : decide ((127 : Int) < (f0.toNat : Int)) = false := by simp; omega
      have e1 : ((f0.toNat : Int) == 1) = false := by simp; omega
      have e2 : ((f0.toNat : Int) == 2) = false := by simp; omega
      have e3 : ((f0.toNat : Int) == 3) = false := by simp; omega
      have e4 : ((f0.toNat : Int) == 4) = false := by simp; omega
      have e23 : ((f0.toNat : Int) == 23) = false := by simp; omega
      have e5 : ((f0.toNat : Int) == 5) = false := by simp; omega
      have e6 : ((f0.toNat : Int) == 6) = false := by simp; omega
      have e15 : ((f0.toNat : Int) == 15) = false := by simp; omega
      have e16 : ((f0.toNat : Int) == 16) = true := by simp; omega
      have hcand : cand = ⟨f0, 0, [], [], at16 l 1, at16 l 3⟩ := by rw [HCD.out]; simp [c16]
      have HE := Lib.hid hcand
      clear hcand HCD c128 c1 c2 c3 c4 c23 c5 c6 c15 c16
      have HA1 := Lib.hid (rAt_i w.heap.size (some ⟨bb, off, none⟩) n c l 1 1 rfl ((w.alloc (.cells zeroRC 45)).alloc (.cells #[.int .u8 (f0.toNat : Int), .int .u8 0, .slice none 0 0, .slice none 0 0, .int .u16 0, .int .u16 0] 45)) (HS0.out.below HRB.out.below (Nat.le_refl _)) (by omega))
      go_enter Try.func28, Try.ntmps28
      go_wp2_with fail
      generalize (w.alloc (.cells zeroRC 45)).alloc (.cells #[.int .u8 (f0.toNat : Int), .int .u8 0, .slice none 0 0, .slice none 0 0, .int .u16 0, .int .u16 0] 45) = W2 at *
      refine HA1.out.mono ?_
      rintro e w3 ⟨rfl, q1, rfl⟩
      have HRX := Lib.hid (HRB.out.on (below_drawn (Below.refl _ W2) q1))
      have hw0 := HRX.out.c 4
      have hwz := HRX.out.z 4
      have HRY := Lib.hid (HRX.out.set 4 (.int .u16 ((at16 l 1).toNat : Int)))
      have HA3 := Lib.hid (rAt_i w.heap.size (some ⟨bb, off, none⟩) n c l 3 3 rfl ((W2.drewN q1).setCell ⟨w.heap.size + 1, 4, none⟩ (.int .u16 ((at16 l 1).toNat : Int))) (HS0.out.below HRY.out.below (Nat.le_refl _)) (by omega))
      clear HA1 hv hz yy0 yy1 y0
      go_wp2_with fail
      clear hw0 hwz
      generalize (W2.drewN q1).setCell ⟨w.heap.size + 1, 4, none⟩ (.int .u16 ((at16 l 1).toNat : Int)) = WY at *
      refine HA3.out.mono ?_
      rintro e w3 ⟨rfl, q3, rfl⟩
      clear HA3 HRX HRB
      have HR2 := Lib.hid (HRY.out.on (below_drawn (Below.refl _ _) q3))
      have hw0 := HR2.out.c 5
      have hwz := HR2.out.z 5
      have hxx0 := (HR2.out.set 5 (.int .u16 ((at16 l 3).toNat : Int))).c 0
      have HQ : Hid (RQR w ((WY.drewN q3).setCell ⟨w.heap.size + 1, 5, none⟩ (.int .u16 ((at16 l 3).toNat : Int))) cand none 0 none 0) := Lib.hid (by
        rw [HE.out]
        exact ⟨HR2.out.set 5 _, ⟨Sl.none_, Sl.none_⟩, fun x hx => (by rcases hx with hx | hx <;> cases hx), by simp⟩)
      clear HE
      go_upto_region 28 with fail
      clear hw0 hwz hxx0 HR2 HRY
      generalize (WY.drewN q3).setCell ⟨w.heap.size + 1, 5, none⟩ (.int .u16 ((at16 l 3).toNat : Int)) = W3 at *
      have HFEW := HQ.out.few
      have HBY := Lib.hid (rRBytes_any cand none 0 none 0 W3 HQ.out.at_ HFEW.1 HFEW.2)
      obtain ⟨qf, qe, bs, ws, qa, qm⟩ := cand
      simp only at HFEW
      have hx := fun o => HQ.out.box.c o
      go_wp2_with fail
      clear hx
      rcases HCP.out with ⟨h1, h2⟩ | ⟨h1, h2⟩
      · rw [h2] at HBY
        refine HBY.out.mono ?_
        rintro e w4 ⟨a9, c9, rfl, hs4, hb4, -⟩
        have HR4 := Lib.hid (HQ.out.on hb4)
        have tx1 := hs4.text (P := Try.prog) Try.underlying27 Try.underlying5 Try.underlying9
        have tx2 := (HS0.out.below HR4.out.box.below (Nat.le_refl _)).text (P := Try.prog) Try.underlying27 Try.underlying5 Try.underlying9
        have hse : ((str l).toList == (str l).toList) = true := by simp
        have hx := fun o => HR4.out.box.c o
        have H1 := Lib.hid h1
        clear hs4 hb4 HBY h1 h2 HCP HQ
        go_wp2_with (refine wpList_store_row rfl 45 (.tmp 2) (.tmp 107) rfl w.heap.size #[b8 qf, b8 qe, .slice none bs.length 0, .slice none ws.length 0, b16 qa, b16 qm] rfl rfl 45 zeroRC HR4.out.box.zero (by kernel_rfl) (by kernel_rfl) (by kernel_rfl) ?_)
        exact bodyPost_ret (v := .tuple #[repV ⟨qf, qe, bs, ws, qa, qm⟩ none 0 none 0, .int .i64 0]) (results_cell_row_tmp rfl _ _ w.heap.size 45 _ (0, 0) _ rfl (setRow_heap _ _ _ _ _ _ HR4.out.box.zero) Try.underlying45 rfl (by kernel_rfl) _ rfl) rfl (rparsed_some H1.out ⟨sl_row HR4.out.at_.words (fun x hx => HR4.out.up x (.inl hx)) _, sl_row HR4.out.at_.bits (fun x hx => HR4.out.up x (.inr hx)) _⟩ (below_setRow HR4.out.box.below (Nat.le_refl _) _) (fun x hx => Nat.le_of_lt (HR4.out.up x hx)))
      · have H1 := Lib.hid h1
        cases hbn : rbytesN ⟨qf, qe, bs, ws, qa, qm⟩ with
        | none =>
          rw [hbn] at HBY
          clear h1 h2 HCP hbn
          refine HBY.out.mono ?_
          rintro e w4 ⟨rfl, hb4⟩
          have HR4 := Lib.hid (HQ.out.box.on hb4)
          clear hb4 HBY HQ
          go_wp2_with (refine wpList_store_row rfl 45 (.tmp 2) (.tmp 106) rfl w.heap.size zeroRC rfl rfl 45 zeroRC HR4.out.zero (by kernel_rfl) (by kernel_rfl) (by kernel_rfl) ?_)
          exact bodyPost_ret (v := .tuple #[.agg zeroRC, .int .i64 13]) (results_cell_row_tmp rfl _ _ w.heap.size 45 zeroRC (0, 0) _ rfl (setRow_heap _ _ _ _ _ _ HR4.out.zero) Try.underlying45 rfl (by kernel_rfl) _ rfl) rfl (rparsed_none H1.out (below_setRow HR4.out.below (Nat.le_refl _) _))
        | some l2 =>
          have hne : l2 ≠ l := fun h => h2 (by rw [hbn, h])
          have hse : ((str l2).toList == (str l).toList) = false := by
            rw [beq_eq_false_iff_ne]
            intro h
            apply hne
            have h3 : (str l2).toList = (str l).toList := h
            simpa [str] using h3
          rw [hbn] at HBY
          clear h1 h2 HCP hbn hne
          refine HBY.out.mono ?_
          rintro e w4 ⟨a9, c9, rfl, hs4, hb4, -⟩
          have HR4 := Lib.hid (HQ.out.box.on hb4)
          have tx1 := hs4.text (P := Try.prog) Try.underlying27 Try.underlying5 Try.underlying9
          have tx2 := (HS0.out.below HR4.out.below (Nat.le_refl _)).text (P := Try.prog) Try.underlying27 Try.underlying5 Try.underlying9
          clear hs4 hb4 HBY HQ
          go_wp2_with (refine wpList_store_row rfl 45 (.tmp 2) (.tmp 106) rfl w.heap.size zeroRC rfl rfl 45 zeroRC HR4.out.zero (by kernel_rfl) (by kernel_rfl) (by kernel_rfl) ?_)
          exact bodyPost_ret (v := .tuple #[.agg zeroRC, .int .i64 13]) (results_cell_row_tmp rfl _ _ w.heap.size 45 zeroRC (0, 0) _ rfl (setRow_heap _ _ _ _ _ _ HR4.out.zero) Try.underlying45 rfl (by kernel_rfl) _ rfl) rfl (rparsed_none H1.out (below_setRow HR4.out.below (Nat.le_refl _) _))
    · have e127 : decide ((127 : Int) < (f0.toNat : Int)) = false := by simp; omega
      have e1 : ((f0.toNat : Int) == 1) = false := by simp; omega
      have e2 : ((f0.toNat : Int) == 2) = false := by simp; omega
      have e3 : ((f0.toNat : Int) == 3) = false := by simp; omega
      have e4 : ((f0.toNat : Int) == 4) = false := by simp; omega
      have e23 : ((f0.toNat : Int) == 23) = false := by simp; omega
      have e5 : ((f0.toNat : Int) == 5) = false := by simp; omega
      have e6 : ((f0.toNat : Int) == 6) = false := by simp; omega
      have e15 : ((f0.toNat : Int) == 15) = false := by simp; omega
      have e16 : ((f0.toNat : Int) == 16) = false := by simp; omega
      have hcand : cand = ⟨f0, 0, [], [], 0, 0⟩ := by rw [HCD.out]; simp [c128, c1, c2, c3, c4, c23, c5, c6, c15, c16]
      have HE := Lib.hid hcand
      clear hcand HCD c128 c1 c2 c3 c4 c23 c5 c6 c15 c16
      have HQ : Hid (RQR w ((w.alloc (.cells zeroRC 45)).alloc (.cells #[.int .u8 (f0.toNat : Int), .int .u8 0, .slice none 0 0, .slice none 0 0, .int .u16 0, .int .u16 0] 45)) cand none 0 none 0) := Lib.hid (by
        rw [HE.out]
        exact ⟨HRB.out, ⟨Sl.none_, Sl.none_⟩, fun x hx => (by rcases hx with hx | hx <;> cases hx), by simp⟩)
      clear HE HRB
      go_enter Try.func28, Try.ntmps28
      go_upto_region 28 with fail
      clear hv hz yy0 yy1 y0
      generalize (w.alloc (.cells zeroRC 45)).alloc (.cells #[.int .u8 (f0.toNat : Int), .int .u8 0, .slice none 0 0, .slice none 0 0, .int .u16 0, .int .u16 0] 45) = W3 at *
      have HFEW := HQ.out.few
      have HBY := Lib.hid (rRBytes_any cand none 0 none 0 W3 HQ.out.at_ HFEW.1 HFEW.2)
      obtain ⟨qf, qe, bs, ws, qa, qm⟩ := cand
      simp only at HFEW
      have hx := fun o => HQ.out.box.c o
      go_wp2_with fail
      clear hx
      rcases HCP.out with ⟨h1, h2⟩ | ⟨h1, h2⟩
      · rw [h2] at HBY
        refine HBY.out.mono ?_
        rintro e w4 ⟨a9, c9, rfl, hs4, hb4, -⟩
        have HR4 := Lib.hid (HQ.out.on hb4)
        have tx1 := hs4.text (P := Try.prog) Try.underlying27 Try.underlying5 Try.underlying9
        have tx2 := (HS0.out.below HR4.out.box.below (Nat.le_refl _)).text (P := Try.prog) Try.underlying27 Try.underlying5 Try.underlying9
        have hse : ((str l).toList == (str l).toList) = true := by simp
        have hx := fun o => HR4.out.box.c o
        have H1 := Lib.hid h1
        clear hs4 hb4 HBY h1 h2 HCP HQ
        go_wp2_with (refine wpList_store_row rfl 45 (.tmp 2) (.tmp 107) rfl w.heap.size #[b8 qf, b8 qe, .slice none bs.length 0, .slice none ws.length 0, b16 qa, b16 qm] rfl rfl 45 zeroRC HR4.out.box.zero (by kernel_rfl) (by kernel_rfl) (by kernel_rfl) ?_)
        exact bodyPost_ret (v := .tuple #[repV ⟨qf, qe, bs, ws, qa, qm⟩ none 0 none 0, .int .i64 0]) (results_cell_row_tmp rfl _ _ w.heap.size 45 _ (0, 0) _ rfl (setRow_heap _ _ _ _ _ _ HR4.out.box.zero) Try.underlying45 rfl (by kernel_rfl) _ rfl) rfl (rparsed_some H1.out ⟨sl_row HR4.out.at_.words (fun x hx => HR4.out.up x (.inl hx)) _, sl_row HR4.out.at_.bits (fun x hx => HR4.out.up x (.inr hx)) _⟩ (below_setRow HR4.out.box.below (Nat.le_refl _) _) (fun x hx => Nat.le_of_lt (HR4.out.up x hx)))
      · have H1 := Lib.hid h1
        cases hbn : rbytesN ⟨qf, qe, bs, ws, qa, qm⟩ with
        | none =>
          rw [hbn] at HBY
          clear h1 h2 HCP hbn
          refine HBY.out.mono ?_
          rintro e w4 ⟨rfl, hb4⟩
          have HR4 := Lib.hid (HQ.out.box.on hb4)
          clear hb4 HBY HQ
          go_wp2_with (refine wpList_store_row rfl 45 (.tmp 2) (.tmp 106) rfl w.heap.size zeroRC rfl rfl 45 zeroRC HR4.out.zero (by kernel_rfl) (by kernel_rfl) (by kernel_rfl) ?_)
          exact bodyPost_ret (v := .tuple #[.agg zeroRC, .int .i64 13]) (results_cell_row_tmp rfl _ _ w.heap.size 45 zeroRC (0, 0) _ rfl (setRow_heap _ _ _ _ _ _ HR4.out.zero) Try.underlying45 rfl (by kernel_rfl) _ rfl) rfl (rparsed_none H1.out (below_setRow HR4.out.below (Nat.le_refl _) _))
        | some l2 =>
          have hne : l2 ≠ l := fun h => h2 (by rw [hbn, h])
          have hse : ((str l2).toList == (str l).toList) = false := by
            rw [beq_eq_false_iff_ne]
            intro h
            apply hne
            have h3 : (str l2).toList = (str l).toList := h
            simpa [str] using h3
          rw [hbn] at HBY
          clear h1 h2 HCP hbn hne
          refine HBY.out.mono ?_
          rintro e w4 ⟨a9, c9, rfl, hs4, hb4, -⟩
          have HR4 := Lib.hid (HQ.out.box.on hb4)
          have tx1 := hs4.text (P := Try.prog) Try.underlying27 Try.underlying5 Try.underlying9
          have tx2 := (HS0.out.below HR4.out.below (Nat.le_refl _)).text (P := Try.prog) Try.underlying27 Try.underlying5 Try.underlying9
          clear hs4 hb4 HBY HQ
          go_wp2_with (refine wpList_store_row rfl 45 (.tmp 2) (.tmp 106) rfl w.heap.size zeroRC rfl rfl 45 zeroRC HR4.out.zero (by kernel_rfl) (by kernel_rfl) (by kernel_rfl) ?_)
          exact bodyPost_ret (v := .tuple #[.agg zeroRC, .int .i64 13]) (results_cell_row_tmp rfl _ _ w.heap.size 45 zeroRC (0, 0) _ rfl (setRow_heap _ _ _ _ _ _ HR4.out.zero) Try.underlying45 rfl (by kernel_rfl) _ rfl) rfl (rparsed_none H1.out (below_setRow HR4.out.below (Nat.le_refl _) _))
end Go.Proofs.Ytenfcpdoingdeaa.RefW
