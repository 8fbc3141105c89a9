/- The document's own reading of a request: Parse. -/
import Derived.Test.YtenfcpdoingdeaaRefReq
import Derived.Test.YtenfcpdoingdeaaRefBytes
import Derived.Test.YtenfcpdoingdeaaAskParse
import Derived.Deep.RegionHeld3
import Derived.Deep.RegionLaw
import Derived.Deep.DeepCutAuto
open Go.RowKit
namespace Go.Proofs.Ytenfcpdoingdeaa.RefW
open AskM AskW Mem

/-- While bytes are parsed: the answer's cell, still empty, and the request. -/
structure RB (w W : World) (gq : Nat) (q : Array Value) : Prop where
  below : Below w.heap.size w W
  zero : W.heap[w.heap.size]? = some (.cells zeroC 26 (0, 0))
  req : W.heap[gq]? = some (.cells q 26 (0, 0))
  lt : w.heap.size < gq
section
variable {w W W' : World} {gq : Nat} {q : Array Value}
theorem RB.on (h : RB w W gq q) (hb : Below W.heap.size W W') : RB w W' gq q := by
  have lt : ∀ {g : Nat} {o : Obj}, W.heap[g]? = some o → g < W.heap.size := fun h => (Array.getElem?_eq_some_iff.1 h).1
  exact ⟨h.below.trans (hb.mono h.below.size), (hb.block _ (lt h.zero)).trans h.zero, (hb.block _ (lt h.req)).trans h.req, h.lt⟩
theorem RB.c (h : RB w W gq q) (o : Nat) : W.cell? ⟨gq, o, none⟩ = q[o]? := cell_of_row _ _ _ _ _ _ h.req
theorem RB.z (h : RB w W gq q) (o : Nat) : W.frozen? ⟨gq, o, none⟩ = false := frozen_of_row _ _ _ _ _ h.req
theorem RB.glt (h : RB w W gq q) : gq < W.heap.size := (Array.getElem?_eq_some_iff.1 h.req).1
theorem RB.set (h : RB w W gq q) (o : Nat) (v : Value) : RB w (W.setCell ⟨gq, o, none⟩ v) gq (q.setIfInBounds o v) :=
  ⟨h.below.setCell (Nat.le_of_lt h.lt) _, (heap_setCell_other _ _ _ _ (by have := h.lt; simp; omega)).trans h.zero, heap_setCell_same _ _ _ _ _ _ h.req, h.lt⟩
end

theorem nums_next {l : List UInt8} {p k : Nat} (h : p + 2 * k + 1 < l.length) : ((numsN (l.drop p)).take k).map b16 ++ [b16 (at16 l (p + 2 * k))] = ((numsN (l.drop p)).take (k + 1)).map b16 := by
  have hl : k < (numsN (l.drop p)).length := by rw [length_numsN, List.length_drop]; omega
  have h1 := getD_numsN (l.drop p) k (by rw [List.length_drop]; omega)
  have h2 : at16 l (p + 2 * k) = (numsN (l.drop p)).getD k 0 := by
    rw [h1, ← at16_drop]
    unfold at16
    rw [if_pos (by rw [List.length_drop]; omega)]
  have h3 : (numsN (l.drop p)).take (k + 1) = (numsN (l.drop p)).take k ++ [(numsN (l.drop p)).getD k 0] := by
    rw [List.take_add_one, List.getElem?_eq_getElem hl]
    simp only [Option.toList, List.getD, List.getElem?_eq_getElem hl, Option.getD]
  rw [h2, h3, List.map_append]
  rfl
theorem RB.grewQ {w W w5 : World} {gq j k : Nat} {q : Array Value} {e : TypeId} {v v5 : Value} {xs : List Value} {O : Obj} (h : RB w W gq q) (ho : W.ownsRow (gq + 1) e 1 v k xs) (hg : Grew ((W.drewN j).alloc O) v w5 v5) : RB w w5 gq q := by
  have hlo : ∀ z, v.ownBlock = some z → gq + 1 ≤ z := fun z hz => (ho.lt z hz).1
  have hgl := h.glt
  have hl := h.lt
  have hblk : ∀ z, z ≤ gq → w5.heap[z]? = W.heap[z]? := fun z hz =>
    (hg.grown.block z (by rw [World.size_alloc]; show z < W.heap.size + 1; omega) (fun h => by have := hlo z h.symm; omega)).trans (Below.heap_alloc (W.drewN j) O z (by show z < W.heap.size; omega))
  exact ⟨Grew.below ((below_drawn h.below j).alloc (by have := h.below.size; exact this) O) hg (by rw [World.size_alloc]; have := h.below.size; show w.heap.size ≤ W.heap.size + 1; omega) (fun z hz => by have := hlo z hz; omega), (hblk _ (by omega)).trans h.zero, (hblk _ (Nat.le_refl _)).trans h.req, h.lt⟩
theorem own_below4 {w w' : World} {base : Nat} {T : TypeId} {v : Value} {n : Nat} {xs : List Value} (h : w.ownsRow base T 1 v n xs) (hb : Below w.heap.size w w') : w'.ownsRow base T 1 v n xs :=
  h.kept (row := none) ⟨hb.os, hb.tape, hb.output, hb.size, fun k hk _ => hb.block k hk⟩ (by cases hv : v.ownBlock <;> simp)
theorem unpack_at6 {b : List UInt8} {k : Nat} {x : UInt8} (h : b[k / 8]? = some x) : (unpackN b).getD k false = bitOf x.toNat (k % 8) := by
  have h1 := getD_unpackN b (k / 8) (k := k % 8) (by omega)
  rw [show 8 * (k / 8) + k % 8 = k by omega, show b.getD (k / 8) 0 = x by simp [List.getD, h]] at h1
  exact h1
/-- The request that is asked, whole. -/
structure RQ (w W : World) (q : Req) (aw : Option Addr) (cw : Nat) (ab : Option Addr) (cb : Nat) : Prop where
  box : RB w W (w.heap.size + 1) #[b8 q.fn, b16 q.at_, b16 q.many, b16 q.to_, .slice aw q.words.length cw, .slice ab q.bits.length cb]
  at_ : AskAt W W.heap.size q aw cw ab cb
  up : ∀ x : Addr, aw = some x ∨ ab = some x → w.heap.size < x.block
  few : q.words.length ≤ 1000000 ∧ q.bits.length ≤ 1000000
theorem RQ.on {w W W' : World} {q : Req} {aw ab : Option Addr} {cw cb : Nat} (h : RQ w W q aw cw ab cb) (hb : Below W.heap.size W W') : RQ w W' q aw cw ab cb :=
  ⟨h.box.on hb, ⟨(h.at_.words.below hb (Nat.le_refl _)).more hb.size, (h.at_.bits.below hb (Nat.le_refl _)).more hb.size⟩, h.up, h.few⟩
theorem sl_row {α : Type} {f : α → Value} {w : World} {n c g : Nat} {a : Option Addr} {l : List α} (h : Sl f w w.heap.size a n c l) (hx : ∀ x : Addr, a = some x → g < x.block) (cs : Array Value) : Sl f (w.setRow g cs) (w.setRow g cs).heap.size a n c l := by
  have e : (w.setRow g cs).heap.size = w.heap.size := by simp [World.setRow]
  rw [e]
  obtain ⟨h1, h2, h3, h5, h4⟩ := h
  refine ⟨h1, h2, h3, h5, fun hn => ?_⟩
  obtain ⟨b, off, e, hb, hc⟩ := h4 hn
  have hg := hx _ e
  simp only at hg
  refine ⟨b, off, e, hb, fun i x hi => ?_⟩
  rw [← hc i x hi]
  exact World.cell?_of_block (w := w) (a := ⟨b, off + i, none⟩) (setRow_other w g b cs (by omega))
theorem rAt_i (B : Nat) (a : Option Addr) (n c : Nat) (l : List UInt8) (i : Nat) (ii : Int) (hii : (i : Int) = ii) (w : World) (hS : Sl b8 w B a n c l) (hi : i ≤ 1000000) :
    Calls Try.prog 58 #[.slice a n c, .int .i64 ii] w fun e w' => e = .returned (.int .i64 ((at16 l i).toNat : Int)) ∧ ∃ q, w' = w.drewN q := by
  subst hii
  exact rAt_any B a n c l i w hS hi

set_option maxRecDepth 100000 in
set_option maxHeartbeats 40000000 in
theorem rParse_any (a : Option Addr) (n c : Nat) (l : List UInt8) (w : World) (hS : Sl b8 w w.heap.size a n c l) (hm : n ≤ 1000000) :
    Calls Try.prog 16 #[.slice a n c] w (Parsed (parseN l) w) := by
  have hn := len_le hS
  have hl := hS.len
  have hB0 := fun o => (Below.refl w.heap.size w).alloc (Nat.le_refl _) o
  have HZ : Hid ((w.alloc (.cells zeroC 26)).heap[w.heap.size]? = some (.cells zeroC 26 (0, 0))) := Lib.hid (heap_alloc_new w _)
  by_cases h5 : n < 5
  · have HP := Lib.hid (parse_short (b := l) (by omega))
    have t1 : decide ((n : Int) < 5) = true := by simp; omega
    clear hl h5
    go_enter Try.func16, Try.ntmps16
    go_wp2_with (refine wpList_store_row rfl 26 (.tmp 2) (.tmp 13) rfl w.heap.size zeroC rfl rfl 26 zeroC HZ.out (by kernel_rfl) (by kernel_rfl) (by kernel_rfl) ?_)
    exact bodyPost_ret (v := .tuple #[.agg zeroC, .int .i64 12]) (results_cell_row_tmp rfl _ _ w.heap.size 26 zeroC (0, 0) _ rfl (setRow_heap _ _ _ _ _ _ HZ.out) Try.underlying26 rfl (by kernel_rfl) _ rfl) rfl (parsed_none HP.out (below_setRow (hB0 _) (Nat.le_refl _) _))
  · have t1 : decide ((n : Int) < 5) = false := by simp; omega
    obtain ⟨bb, off, rfl, hbb, hc⟩ := hS.cells (by omega)
    have hx0 := hc 0 (l.getD 0 0) (by rw [List.getElem?_eq_getElem (by omega)]; simp [List.getD, List.getElem?_eq_getElem (show 0 < l.length by omega)])
    rw [Nat.add_zero] at hx0
    have hwr3 : IntKind.u16.wrap ((at16 l 3).toNat : Int) = ((at16 l 3).toNat : Int) := IntWalk.u16_in _ (by have := (at16 l 3).toNat_lt; omega)
    have HCP := Lib.hid (cand_parse l)
    have HCD : Hid (candN l = (⟨l.getD 0 0, at16 l 1, (if (l.getD 0 0).toNat = 5 ∨ (l.getD 0 0).toNat = 6 then 0 else at16 l 3), (if (l.getD 0 0).toNat = 23 then at16 l 5 else 0), (if (l.getD 0 0).toNat = 6 then [at16 l 3] else if (l.getD 0 0).toNat = 16 then numsN (l.drop 6) else if (l.getD 0 0).toNat = 23 then numsN (l.drop 10) else []), (if (l.getD 0 0).toNat = 5 then [decide (at16 l 3 = 65280)] else if (l.getD 0 0).toNat = 15 then (unpackN (l.drop 6)).take (at16 l 3).toNat else [])⟩ : Req)) := Lib.hid rfl
    generalize candN l = cand at *
    generalize l.getD 0 0 = f0 at *
    have i0' : (0 : Int) < (n : Int) := by omega
    have hpos : 0 < n := by omega
    have HB1 := Lib.hid (hB0 (.cells zeroC 26))
    have y0 := HB1.out.cell (p := ⟨bb, off, none⟩) hbb
    rw [hx0] at y0
    have hW1 : (w.alloc (.cells zeroC 26)).heap.size = w.heap.size + 1 := by simp
    have HS1 := Lib.hid (hS.below HB1.out (Nat.le_refl _))
    have hl5 : 5 ≤ n := by omega
    have HLN := Lib.hid hl
    have HS0 := Lib.hid hS
    have hwr : IntKind.u16.wrap ((at16 l 1).toNat : Int) = ((at16 l 1).toNat : Int) := IntWalk.u16_in _ (by have := (at16 l 1).toNat_lt; omega)
    clear hc hx0 hS hB0 hl h5
    go_enter Try.func16, Try.ntmps16
    go_upto_region 3 with fail
    generalize w.alloc (.cells zeroC 26) = W1 at *
    have hbs : bb < W1.heap.size := by omega
    have hbne : ¬ bb = W1.heap.size := by omega
    have hbne2 : ¬ bb = w.heap.size + 1 := by omega
    have hbne3 : ¬ w.heap.size + 1 = bb := by omega
    have z0 : W1.drew.cell? ⟨bb, off, none⟩ = some (b8 f0) := y0
    have HA1 := Lib.hid (rAt_i w.heap.size (some ⟨bb, off, none⟩) n c l 1 1 rfl W1.drew HS1.out (by omega))
    have HA2 := Lib.hid (rAt_i w.heap.size (some ⟨bb, off, none⟩) n c l 1 1 rfl (W1.alloc (.cells zeroC 26)).drew (HS1.out.below (w' := (W1.alloc (.cells zeroC 26)).drew) (below_drawn ((Below.refl w.heap.size W1).alloc (by omega) (.cells zeroC 26)) 1) (Nat.le_refl _)) (by omega))
    have HR3 := fun q => Lib.hid (show ((W1.alloc (.cells zeroC 26)).drew.drewN q).heap[w.heap.size + 1]? = some (.cells zeroC 26 (0, 0)) from by rw [← hW1]; exact heap_alloc_new W1 _)
    go_cut [4] (fun s wx => s = .pointer (some ⟨w.heap.size + 1, 0, none⟩) ∧ Hid (RB w wx (w.heap.size + 1) #[.int .u8 (f0.toNat : Int), .int .u16 ((at16 l 1).toNat : Int), .int .u16 0, .int .u16 0, .slice none 0 0, .slice none 0 0]))
    case first =>
      go_region_held3 (fun w' => w'.cell? ⟨bb, off, none⟩ = some (b8 f0))
        (first
          | with_reducible exact y0
          | with_reducible exact z0
          | go_keep)
        (first
          | (go_at_call 58; (with_reducible refine HA1.out.mono ?_); rintro e w3 ⟨rfl, q, rfl⟩)
          | (go_at_call 58; (with_reducible refine HA2.out.mono ?_); rintro e w3 ⟨rfl, q, rfl⟩; have hv := fun o => cell_of_row _ _ o _ _ _ (HR3 q).out; have hz := fun o => frozen_of_row _ _ o _ _ (HR3 q).out))
      · rename_i hHeld
        clear hHeld
        have HRB : Hid (RB w ((W1.drewN (1 + q)).alloc (.cells #[.int .u8 (f0.toNat : Int), .int .u16 ((at16 l 1).toNat : Int), .int .u16 0, .int .u16 0, .slice none 0 0, .slice none 0 0] 26)) (w.heap.size + 1) #[.int .u8 (f0.toNat : Int), .int .u16 ((at16 l 1).toNat : Int), .int .u16 0, .int .u16 0, .slice none 0 0, .slice none 0 0]) := Lib.hid
          ⟨(below_drawn HB1.out (1 + q)).alloc (by show w.heap.size ≤ W1.heap.size; omega) _, (Below.heap_alloc (W1.drewN (1 + q)) _ w.heap.size (by show w.heap.size < W1.heap.size; omega)).trans HZ.out, by rw [← hW1]; exact heap_alloc_new (W1.drewN (1 + q)) _, by omega⟩
        go_wp2_with fail
        go_meet
        exact ⟨by rw [← hW1], HRB⟩
      · rename_i hHeld
        clear hHeld
        have HR0 : RB w ((W1.alloc (.cells zeroC 26)).drewN (1 + q)) (w.heap.size + 1) zeroC :=
          ⟨below_drawn (HB1.out.alloc (by omega) _) (1 + q), (Below.heap_alloc W1 _ w.heap.size (by omega)).trans HZ.out, by rw [← hW1]; exact heap_alloc_new W1 _, by omega⟩
        have HRB := Lib.hid ((((((HR0.set 0 (.int .u8 (f0.toNat : Int))).set 1 (.int .u16 ((at16 l 1).toNat : Int))).set 2 (.int .u16 0)).set 3 (.int .u16 0)).set 4 (.slice none 0 0)).set 5 (.slice none 0 0))
        clear hv hz HR0
        go_wp2_with fail
        go_meet
        exact ⟨by rw [← hW1], HRB⟩
    case rest =>
      obtain ⟨rfl, HRB⟩ := hcut
      clear HA1 HA2 HR3 HB1 HS1 y0 z0 hbs hbne hbne2 hbne3 hW1 HZ
      obtain ⟨W2, rfl⟩ : ∃ W2 : World, W2 = wc := ⟨_, rfl⟩
      have hv := fun o => HRB.out.c o
      have hz := fun o => HRB.out.z o
      have HA3 := Lib.hid (rAt_i w.heap.size (some ⟨bb, off, none⟩) n c l 3 3 rfl W2 (HS0.out.below HRB.out.below (Nat.le_refl _)) (by omega))
      by_cases c5 : f0.toNat = 5
      · have e5 : ((f0.toNat : Int) == 5) = true := by simp; omega
        have e6 : ((f0.toNat : Int) == 6) = false := by simp; omega
        have e15 : ((f0.toNat : Int) == 15) = false := by simp; omega
        have e16 : ((f0.toNat : Int) == 16) = false := by simp; omega
        have e23 : ((f0.toNat : Int) == 23) = false := by simp; omega
        have hq : (((at16 l 3).toNat : Int) == 65280) = decide (at16 l 3 = 65280) := by
          rw [Bool.eq_iff_iff]
          simp only [beq_iff_eq, decide_eq_true_eq]
          constructor
          · intro h; apply UInt16.toNat_inj.1; have h2 : (65280 : UInt16).toNat = 65280 := rfl; omega
          · intro h; rw [h]; rfl
        have hcand : cand = ⟨f0, at16 l 1, 0, 0, [], [decide (at16 l 3 = 65280)]⟩ := by rw [HCD.out]; simp [c5]
        have HE := Lib.hid hcand
        have HQ5 := Lib.hid hq
        clear c5 HCD hcand
        generalize hdd : decide (at16 l 3 = 65280) = dd at *
        clear hdd
        go_wp2_with fail
        refine HA3.out.mono ?_
        rintro e w3 ⟨rfl, q3, rfl⟩
        have HR2 := Lib.hid ((HRB.out.on (below_drawn (Below.refl _ _) q3)).on ((Below.refl _ _).alloc (Nat.le_refl _) (.cells #[.bool dd] 4)))
        have hw0 := HR2.out.c 5
        have hwz := HR2.out.z 5
        have hx0 := (HR2.out.set 5 (.slice (some ⟨W2.heap.size, 0, none⟩) 1 1)).c 0
        have HQ : Hid (RQ w (((W2.drewN q3).alloc (.cells #[.bool dd] 4)).setCell ⟨w.heap.size + 1, 5, none⟩ (.slice (some ⟨W2.heap.size, 0, none⟩) 1 1)) cand none 0 (some ⟨W2.heap.size, 0, none⟩) 1) := Lib.hid (by
          rw [HE.out]
          refine ⟨HR2.out.set 5 _, ⟨Sl.none_, ?_⟩, fun x hx => ?_, by simp⟩
          · have h := (Sl.new (f := Value.bool) (W2.drewN q3) #[.bool dd] 4 (0, 0) [dd] 1 rfl rfl (by omega)).set (g := w.heap.size + 1) (i := 5) (v := .slice (some ⟨W2.heap.size, 0, none⟩) 1 1) (fun x hx => by injection hx with hx; subst hx; have := HRB.out.glt; show W2.heap.size ≠ _; omega)
            rw [World.size_setCell]
            exact h
          · rcases hx with hx | hx
            · cases hx
            · injection hx with hx; subst hx; have := HRB.out.glt; have := HRB.out.lt; show w.heap.size < W2.heap.size; omega)
        clear hv hz HA3 HE
        go_upto_region 24 with fail
        clear hw0 hwz hx0 HR2 HRB
        generalize ((W2.drewN q3).alloc (.cells #[.bool dd] 4)).setCell ⟨w.heap.size + 1, 5, none⟩ (.slice (some ⟨W2.heap.size, 0, none⟩) 1 1) = W3 at *
        have HFEW := HQ.out.few
        have HBY := Lib.hid (rBytes_any cand none 0 (some ⟨W2.heap.size, 0, none⟩) 1 W3 HQ.out.at_ HFEW.1 HFEW.2)
        obtain ⟨qf, qa, qm, qt, ws, bs⟩ := cand
        simp only at HFEW
        have hx := fun o => HQ.out.box.c o
        go_wp2_with fail
        clear hx
        rcases HCP.out with ⟨h1, h2⟩ | ⟨h1, h2⟩
        · rw [h2] at HBY
          refine HBY.out.mono ?_
          rintro e w4 ⟨a4, c4, rfl, hs4, hb4, -⟩
          have HR4 := Lib.hid (HQ.out.on hb4)
          have tx1 := hs4.text (P := Try.prog) Try.underlying27 Try.underlying5 Try.underlying9
          have tx2 := (HS0.out.below HR4.out.box.below (Nat.le_refl _)).text (P := Try.prog) Try.underlying27 Try.underlying5 Try.underlying9
          have hse : ((str l).toList == (str l).toList) = true := by simp
          have hx := fun o => HR4.out.box.c o
          have H1 := Lib.hid h1
          clear hs4 hb4 HBY h1 h2 HCP HQ
          go_wp2_with (refine wpList_store_row rfl 26 (.tmp 2) (.tmp 128) rfl w.heap.size #[b8 qf, b16 qa, b16 qm, b16 qt, .slice none ws.length 0, .slice (some ⟨W2.heap.size, 0, none⟩) bs.length 1] rfl rfl 26 zeroC HR4.out.box.zero (by kernel_rfl) (by kernel_rfl) (by kernel_rfl) ?_)
          exact bodyPost_ret (v := .tuple #[askV ⟨qf, qa, qm, qt, ws, bs⟩ none 0 (some ⟨W2.heap.size, 0, none⟩) 1, .int .i64 0]) (results_cell_row_tmp rfl _ _ w.heap.size 26 _ (0, 0) _ rfl (setRow_heap _ _ _ _ _ _ HR4.out.box.zero) Try.underlying26 rfl (by kernel_rfl) _ rfl) rfl (parsed_some H1.out ⟨sl_row HR4.out.at_.words (fun x hx => HR4.out.up x (.inl hx)) _, sl_row HR4.out.at_.bits (fun x hx => HR4.out.up x (.inr hx)) _⟩ (below_setRow HR4.out.box.below (Nat.le_refl _) _) (fun x hx => Nat.le_of_lt (HR4.out.up x hx)))
        · have H1 := Lib.hid h1
          cases hbn : bytesN ⟨qf, qa, qm, qt, ws, bs⟩ with
          | none =>
            rw [hbn] at HBY
            clear h1 h2 HCP hbn
            refine HBY.out.mono ?_
            rintro e w4 ⟨rfl, hb4⟩
            have HR4 := Lib.hid (HQ.out.box.on hb4)
            clear hb4 HBY HQ
            go_wp2_with (refine wpList_store_row rfl 26 (.tmp 2) (.tmp 127) rfl w.heap.size zeroC rfl rfl 26 zeroC HR4.out.zero (by kernel_rfl) (by kernel_rfl) (by kernel_rfl) ?_)
            exact bodyPost_ret (v := .tuple #[.agg zeroC, .int .i64 12]) (results_cell_row_tmp rfl _ _ w.heap.size 26 zeroC (0, 0) _ rfl (setRow_heap _ _ _ _ _ _ HR4.out.zero) Try.underlying26 rfl (by kernel_rfl) _ rfl) rfl (parsed_none H1.out (below_setRow HR4.out.below (Nat.le_refl _) _))
          | some l2 =>
            have hne : l2 ≠ l := fun h => h2 (by rw [hbn, h])
            have hse : ((str l2).toList == (str l).toList) = false := by
              rw [beq_eq_false_iff_ne]
              intro h
              apply hne
              have h3 : (str l2).toList = (str l).toList := h
              simpa [str] using h3
            rw [hbn] at HBY
            clear h1 h2 HCP hbn hne
            refine HBY.out.mono ?_
            rintro e w4 ⟨a4, c4, rfl, hs4, hb4, -⟩
            have HR4 := Lib.hid (HQ.out.box.on hb4)
            have tx1 := hs4.text (P := Try.prog) Try.underlying27 Try.underlying5 Try.underlying9
            have tx2 := (HS0.out.below HR4.out.below (Nat.le_refl _)).text (P := Try.prog) Try.underlying27 Try.underlying5 Try.underlying9
            clear hs4 hb4 HBY HQ
            go_wp2_with (refine wpList_store_row rfl 26 (.tmp 2) (.tmp 127) rfl w.heap.size zeroC rfl rfl 26 zeroC HR4.out.zero (by kernel_rfl) (by kernel_rfl) (by kernel_rfl) ?_)
            exact bodyPost_ret (v := .tuple #[.agg zeroC, .int .i64 12]) (results_cell_row_tmp rfl _ _ w.heap.size 26 zeroC (0, 0) _ rfl (setRow_heap _ _ _ _ _ _ HR4.out.zero) Try.underlying26 rfl (by kernel_rfl) _ rfl) rfl (parsed_none H1.out (below_setRow HR4.out.below (Nat.le_refl _) _))
      by_cases c6 : f0.toNat = 6
      · have e5 : ((f0.toNat : Int) == 5) = false := by simp; omega
        have e6 : ((f0.toNat : Int) == 6) = true := by simp; omega
        have e15 : ((f0.toNat : Int) == 15) = false := by simp; omega
        have e16 : ((f0.toNat : Int) == 16) = false := by simp; omega
        have e23 : ((f0.toNat : Int) == 23) = false := by simp; omega
        have hcand : cand = ⟨f0, at16 l 1, 0, 0, [at16 l 3], []⟩ := by rw [HCD.out]; simp [c6]
        have HE := Lib.hid hcand
        clear c5 c6 HCD hcand
        generalize at16 l 3 = m3 at *
        go_wp2_with fail
        refine HA3.out.mono ?_
        rintro e w3 ⟨rfl, q3, rfl⟩
        have HR2 := Lib.hid ((HRB.out.on (below_drawn (Below.refl _ _) q3)).on ((Below.refl _ _).alloc (Nat.le_refl _) (.cells #[.int .u16 (m3.toNat : Int)] 22)))
        have hw0 := HR2.out.c 4
        have hwz := HR2.out.z 4
        have hx0 := (HR2.out.set 4 (.slice (some ⟨W2.heap.size, 0, none⟩) 1 1)).c 0
        have HQ : Hid (RQ w (((W2.drewN q3).alloc (.cells #[.int .u16 (m3.toNat : Int)] 22)).setCell ⟨w.heap.size + 1, 4, none⟩ (.slice (some ⟨W2.heap.size, 0, none⟩) 1 1)) cand (some ⟨W2.heap.size, 0, none⟩) 1 none 0) := Lib.hid (by
          rw [HE.out]
          refine ⟨HR2.out.set 4 _, ⟨?_, Sl.none_⟩, fun x hx => ?_, by simp⟩
          · have h := (Sl.new (f := b16) (W2.drewN q3) #[.int .u16 (m3.toNat : Int)] 22 (0, 0) [m3] 1 rfl rfl (by omega)).set (g := w.heap.size + 1) (i := 4) (v := .slice (some ⟨W2.heap.size, 0, none⟩) 1 1) (fun x hx => by injection hx with hx; subst hx; have := HRB.out.glt; show W2.heap.size ≠ _; omega)
            rw [World.size_setCell]
            exact h
          · rcases hx with hx | hx
            · injection hx with hx; subst hx; have := HRB.out.glt; have := HRB.out.lt; show w.heap.size < W2.heap.size; omega
            · cases hx)
        clear hv hz HA3 HE
        go_upto_region 24 with fail
        clear hw0 hwz hx0 HR2 HRB
        generalize ((W2.drewN q3).alloc (.cells #[.int .u16 (m3.toNat : Int)] 22)).setCell ⟨w.heap.size + 1, 4, none⟩ (.slice (some ⟨W2.heap.size, 0, none⟩) 1 1) = W3 at *
        have HFEW := HQ.out.few
        have HBY := Lib.hid (rBytes_any cand (some ⟨W2.heap.size, 0, none⟩) 1 none 0 W3 HQ.out.at_ HFEW.1 HFEW.2)
        obtain ⟨qf, qa, qm, qt, ws, bs⟩ := cand
        simp only at HFEW
        have hx := fun o => HQ.out.box.c o
        go_wp2_with fail
        clear hx
        rcases HCP.out with ⟨h1, h2⟩ | ⟨h1, h2⟩
        · rw [h2] at HBY
          refine HBY.out.mono ?_
          rintro e w4 ⟨a4, c4, rfl, hs4, hb4, -⟩
          have HR4 := Lib.hid (HQ.out.on hb4)
          have tx1 := hs4.text (P := Try.prog) Try.underlying27 Try.underlying5 Try.underlying9
          have tx2 := (HS0.out.below HR4.out.box.below (Nat.le_refl _)).text (P := Try.prog) Try.underlying27 Try.underlying5 Try.underlying9
          have hse : ((str l).toList == (str l).toList) = true := by simp
          have hx := fun o => HR4.out.box.c o
          have H1 := Lib.hid h1
          clear hs4 hb4 HBY h1 h2 HCP HQ
          go_wp2_with (refine wpList_store_row rfl 26 (.tmp 2) (.tmp 128) rfl w.heap.size #[b8 qf, b16 qa, b16 qm, b16 qt, .slice (some ⟨W2.heap.size, 0, none⟩) ws.length 1, .slice none bs.length 0] rfl rfl 26 zeroC HR4.out.box.zero (by kernel_rfl) (by kernel_rfl) (by kernel_rfl) ?_)
          exact bodyPost_ret (v := .tuple #[askV ⟨qf, qa, qm, qt, ws, bs⟩ (some ⟨W2.heap.size, 0, none⟩) 1 none 0, .int .i64 0]) (results_cell_row_tmp rfl _ _ w.heap.size 26 _ (0, 0) _ rfl (setRow_heap _ _ _ _ _ _ HR4.out.box.zero) Try.underlying26 rfl (by kernel_rfl) _ rfl) rfl (parsed_some H1.out ⟨sl_row HR4.out.at_.words (fun x hx => HR4.out.up x (.inl hx)) _, sl_row HR4.out.at_.bits (fun x hx => HR4.out.up x (.inr hx)) _⟩ (below_setRow HR4.out.box.below (Nat.le_refl _) _) (fun x hx => Nat.le_of_lt (HR4.out.up x hx)))
        · have H1 := Lib.hid h1
          cases hbn : bytesN ⟨qf, qa, qm, qt, ws, bs⟩ with
          | none =>
            rw [hbn] at HBY
            clear h1 h2 HCP hbn
            refine HBY.out.mono ?_
            rintro e w4 ⟨rfl, hb4⟩
            have HR4 := Lib.hid (HQ.out.box.on hb4)
            clear hb4 HBY HQ
            go_wp2_with (refine wpList_store_row rfl 26 (.tmp 2) (.tmp 127) rfl w.heap.size zeroC rfl rfl 26 zeroC HR4.out.zero (by kernel_rfl) (by kernel_rfl) (by kernel_rfl) ?_)
            exact bodyPost_ret (v := .tuple #[.agg zeroC, .int .i64 12]) (results_cell_row_tmp rfl _ _ w.heap.size 26 zeroC (0, 0) _ rfl (setRow_heap _ _ _ _ _ _ HR4.out.zero) Try.underlying26 rfl (by kernel_rfl) _ rfl) rfl (parsed_none H1.out (below_setRow HR4.out.below (Nat.le_refl _) _))
          | some l2 =>
            have hne : l2 ≠ l := fun h => h2 (by rw [hbn, h])
            have hse : ((str l2).toList == (str l).toList) = false := by
              rw [beq_eq_false_iff_ne]
              intro h
              apply hne
              have h3 : (str l2).toList = (str l).toList := h
              simpa [str] using h3
            rw [hbn] at HBY
            clear h1 h2 HCP hbn hne
            refine HBY.out.mono ?_
            rintro e w4 ⟨a4, c4, rfl, hs4, hb4, -⟩
            have HR4 := Lib.hid (HQ.out.box.on hb4)
            have tx1 := hs4.text (P := Try.prog) Try.underlying27 Try.underlying5 Try.underlying9
            have tx2 := (HS0.out.below HR4.out.below (Nat.le_refl _)).text (P := Try.prog) Try.underlying27 Try.underlying5 Try.underlying9
            clear hs4 hb4 HBY HQ
            go_wp2_with (refine wpList_store_row rfl 26 (.tmp 2) (.tmp 127) rfl w.heap.size zeroC rfl rfl 26 zeroC HR4.out.zero (by kernel_rfl) (by kernel_rfl) (by kernel_rfl) ?_)
            exact bodyPost_ret (v := .tuple #[.agg zeroC, .int .i64 12]) (results_cell_row_tmp rfl _ _ w.heap.size 26 zeroC (0, 0) _ rfl (setRow_heap _ _ _ _ _ _ HR4.out.zero) Try.underlying26 rfl (by kernel_rfl) _ rfl) rfl (parsed_none H1.out (below_setRow HR4.out.below (Nat.le_refl _) _))
      by_cases c16 : f0.toNat = 16
      · have hcand : cand = ⟨f0, at16 l 1, at16 l 3, 0, numsN (l.drop 6), []⟩ := by rw [HCD.out]; simp [c16]
        have HE := Lib.hid hcand
        have e5 : ((f0.toNat : Int) == 5) = false := by simp; omega
        have e6 : ((f0.toNat : Int) == 6) = false := by simp; omega
        have e15 : ((f0.toNat : Int) == 15) = false := by simp; omega
        have e16 : ((f0.toNat : Int) == 16) = true := by simp; omega
        have e23 : ((f0.toNat : Int) == 23) = false := by simp; omega
        clear c5 c6
        go_wp2_with fail
        refine HA3.out.mono ?_
        rintro e w3 ⟨rfl, q3, rfl⟩
        have HRM := Lib.hid ((HRB.out.on (below_drawn (Below.refl _ _) q3)).set 2 (.int .u16 ((at16 l 3).toNat : Int)))
        have hw0 := (HRB.out.on (below_drawn (Below.refl _ _) q3)).c 2
        have hwz := (HRB.out.on (below_drawn (Below.refl _ _) q3)).z 2
        have hx0 := HRM.out.c 0
        clear hv hz HA3
        clear c16 HCD hcand
        go_wp2_with fail
        go_loopw [7] (fun i wr => ∃ (k p : Nat) (v : Value), Hid (p = 6 + 2 * k) ∧ p ≤ n + 6 ∧ i = .int .i64 (p : Int) ∧ RB w wr (w.heap.size + 1) #[.int .u8 (f0.toNat : Int), .int .u16 ((at16 l 1).toNat : Int), .int .u16 ((at16 l 3).toNat : Int), .int .u16 0, v, .slice none 0 0] ∧ wr.ownsRow (w.heap.size + 2) 22 1 v k (((numsN (l.drop 6)).take k).map b16)) (fun i _ => n + 6 + 2 - (intOf i).toNat)
        case atStart => exact ⟨0, 6, .slice none 0 0, Lib.hid rfl, by omega, rfl, HRM.out, by simpa using World.ownsRow_nil _ _ _ _⟩
        case round =>
          obtain ⟨k, p, v, HP, hpn, rfl, hrb, ho⟩ := hrel
          have HRK := Lib.hid hrb
          have HO := Lib.hid ho
          have hgz := hrb.glt
          have hp := HP.out
          clear hrb ho HRM hw0 hwz hx0
          by_cases hlt : p + 1 < n
          · have t3 : decide ((p : Int) + 1 < (n : Int)) = true := by simp; omega
            have HAK := fun q => Lib.hid (rAt_i w.heap.size (some ⟨bb, off, none⟩) n c l p (p : Int) rfl (wr.drewN q) ((HS0.out.below HRK.out.below (Nat.le_refl _)).drawn q) (by omega))
            have HOq := fun q => Lib.hid (show (wr.drewN q).ownsRow (w.heap.size + 2) 22 1 v k (((numsN (l.drop 6)).take k).map b16) from HO.out)
            have hwk : IntKind.u16.wrap ((at16 l p).toNat : Int) = ((at16 l p).toNat : Int) := IntWalk.u16_in _ (by have := (at16 l p).toNat_lt; omega)
            have HNX : Hid (((numsN (l.drop 6)).take k).map b16 ++ [b16 (at16 l p)] = ((numsN (l.drop 6)).take (k + 1)).map b16) := Lib.hid (by rw [hp]; exact nums_next (by rw [HLN.out]; omega))
            obtain ⟨iW, hi, hz0, hz1, hz2⟩ := info_parts info16
            have hz2' : iW.bytes = 2 := hz2
            have hkn : k ≤ n := by omega
            have hq4 : wr.cell? ⟨w.heap.size + 1, 4, none⟩ = some v := HRK.out.c 4
            have hgne : ¬ w.heap.size + 1 = wr.heap.size := by omega
            clear hp
            generalize at16 l p = nx at *
            have hqq : ∀ q, ((wr.drewN q).alloc (.cells #[.int .u16 (nx.toNat : Int)] 22)).cell? ⟨w.heap.size + 1, 4, none⟩ = some v := fun q => (World.cell?_of_block (w := wr) (a := ⟨w.heap.size + 1, 4, none⟩) (Below.heap_alloc (wr.drewN q) _ _ (by show w.heap.size + 1 < wr.heap.size; omega))).trans hq4
            go_wp2_with fail
            go_region_law (first
              | (rw [if_pos (by rfl)]; go_simp; go_at_call 58; refine (HAK 1).out.mono ?_; rintro e w4 ⟨rfl, q4, rfl⟩; go_wp2_with fail)
              | (revert q4; intro q4; (refine step_append_grew (by rfl) (.tmp 105) (.tmp 110) 23 (by rfl) (w.heap.size + 2) 22 iW (.int .u16 0) 2 Try.underlying23 hi hz0 hz1 hz2' rfl v k _ (by rfl) ((HOq (1 + q4)).out.alloc (.cells #[b16 nx] 22)) ⟨wr.heap.size, 0, none⟩ 1 1 [b16 nx] (by rfl) (by rfl) (new_cells (wr.drewN (1 + q4)) #[b16 nx] _) (by intro u hu; simp at hu; subst hu; rfl) (by omega) (by unfold maxLen; omega) (by omega) (by show w.heap.size + 2 ≤ ((wr.drewN (1 + q4)).alloc _).heap.size; rw [World.size_alloc]; show w.heap.size + 2 ≤ wr.heap.size + 1; omega) ?_); intro v5 w5 hown5 hg5; rw [HNX.out] at hown5; have HO5 := Lib.hid hown5; have HR5 := Lib.hid (HRK.out.grewQ HO.out hg5); have hv5 := HR5.out.c 4; have hz5 := HR5.out.z 4; clear hown5 hg5; obtain ⟨a5, c5, rfl, -⟩ := Sl.of_own HO5.out))
            all_goals
              go_wp2_with fail
              go_roundw
              case rel => exact ⟨k + 1, p + 2, .slice a5 (k + 1) c5, Lib.hid (by have := HP.out; omega), by omega, by go_num, HR5.out.set 4 _, ownsRow_setCell_below HO5.out (by simp) _⟩
              case measure => simp [intOf]; omega
          · have t3 : decide ((p : Int) + 1 < (n : Int)) = false := by simp; omega
            have hall : (numsN (l.drop 6)).take k = numsN (l.drop 6) := List.take_of_length_le (by rw [length_numsN, List.length_drop, HLN.out]; omega)
            have ho := HO.out
            rw [hall] at ho
            obtain ⟨a5, c5, rfl, hs5⟩ := Sl.of_own ho
            have hk5 := hs5.len
            have HUP := Lib.hid (fun x (hx : a5 = some x) => (ho.lt x.block (by rw [hx]; rfl)).1)
            have HQ : Hid (RQ w wr cand a5 c5 none 0) := Lib.hid (by
              rw [HE.out]
              refine ⟨?_, ⟨hs5.norm, Sl.none_⟩, fun x hx => ?_, by have := HLN.out; simp only [length_numsN, List.length_drop]; omega, by simp⟩
              · have h := HRK.out
                rw [← hk5] at h
                exact h
              · rcases hx with hx | hx
                · have := HUP.out x hx; omega
                · cases hx)
            have hx0 := HRK.out.c 0
            clear hs5 ho HO hall HRK HUP HE hk5 hp hgz
            generalize wr = W3 at *
            go_upto_region 24 with fail
            clear hx0
            have HFEW := HQ.out.few
            have HBY := Lib.hid (rBytes_any cand a5 c5 none 0 W3 HQ.out.at_ HFEW.1 HFEW.2)
            obtain ⟨qf, qa, qm, qt, ws, bs⟩ := cand
            simp only at HFEW
            have hx := fun o => HQ.out.box.c o
            go_wp2_with fail
            clear hx
            rcases HCP.out with ⟨h1, h2⟩ | ⟨h1, h2⟩
            · rw [h2] at HBY
              refine HBY.out.mono ?_
              rintro e w4 ⟨a4, c4, rfl, hs4, hb4, -⟩
              have HR4 := Lib.hid (HQ.out.on hb4)
              have tx1 := hs4.text (P := Try.prog) Try.underlying27 Try.underlying5 Try.underlying9
              have tx2 := (HS0.out.below HR4.out.box.below (Nat.le_refl _)).text (P := Try.prog) Try.underlying27 Try.underlying5 Try.underlying9
              have hse : ((str l).toList == (str l).toList) = true := by simp
              have hx := fun o => HR4.out.box.c o
              have H1 := Lib.hid h1
              clear hs4 hb4 HBY h1 h2 HCP HQ
              go_wp2_with (refine wpList_store_row rfl 26 (.tmp 2) (.tmp 128) rfl w.heap.size #[b8 qf, b16 qa, b16 qm, b16 qt, .slice a5 ws.length c5, .slice none bs.length 0] rfl rfl 26 zeroC HR4.out.box.zero (by kernel_rfl) (by kernel_rfl) (by kernel_rfl) ?_)
              exact bodyPost_ret (v := .tuple #[askV ⟨qf, qa, qm, qt, ws, bs⟩ a5 c5 none 0, .int .i64 0]) (results_cell_row_tmp rfl _ _ w.heap.size 26 _ (0, 0) _ rfl (setRow_heap _ _ _ _ _ _ HR4.out.box.zero) Try.underlying26 rfl (by kernel_rfl) _ rfl) rfl (parsed_some H1.out ⟨sl_row HR4.out.at_.words (fun x hx => HR4.out.up x (.inl hx)) _, sl_row HR4.out.at_.bits (fun x hx => HR4.out.up x (.inr hx)) _⟩ (below_setRow HR4.out.box.below (Nat.le_refl _) _) (fun x hx => Nat.le_of_lt (HR4.out.up x hx)))
            · have H1 := Lib.hid h1
              cases hbn : bytesN ⟨qf, qa, qm, qt, ws, bs⟩ with
              | none =>
                rw [hbn] at HBY
                clear h1 h2 HCP hbn
                refine HBY.out.mono ?_
                rintro e w4 ⟨rfl, hb4⟩
                have HR4 := Lib.hid (HQ.out.box.on hb4)
                clear hb4 HBY HQ
                go_wp2_with (refine wpList_store_row rfl 26 (.tmp 2) (.tmp 127) rfl w.heap.size zeroC rfl rfl 26 zeroC HR4.out.zero (by kernel_rfl) (by kernel_rfl) (by kernel_rfl) ?_)
                exact bodyPost_ret (v := .tuple #[.agg zeroC, .int .i64 12]) (results_cell_row_tmp rfl _ _ w.heap.size 26 zeroC (0, 0) _ rfl (setRow_heap _ _ _ _ _ _ HR4.out.zero) Try.underlying26 rfl (by kernel_rfl) _ rfl) rfl (parsed_none H1.out (below_setRow HR4.out.below (Nat.le_refl _) _))
              | some l2 =>
                have hne : l2 ≠ l := fun h => h2 (by rw [hbn, h])
                have hse : ((str l2).toList == (str l).toList) = false := by
                  rw [beq_eq_false_iff_ne]
                  intro h
                  apply hne
                  have h3 : (str l2).toList = (str l).toList := h
                  simpa [str] using h3
                rw [hbn] at HBY
                clear h1 h2 HCP hbn hne
                refine HBY.out.mono ?_
                rintro e w4 ⟨a4, c4, rfl, hs4, hb4, -⟩
                have HR4 := Lib.hid (HQ.out.box.on hb4)
                have tx1 := hs4.text (P := Try.prog) Try.underlying27 Try.underlying5 Try.underlying9
                have tx2 := (HS0.out.below HR4.out.below (Nat.le_refl _)).text (P := Try.prog) Try.underlying27 Try.underlying5 Try.underlying9
                clear hs4 hb4 HBY HQ
                go_wp2_with (refine wpList_store_row rfl 26 (.tmp 2) (.tmp 127) rfl w.heap.size zeroC rfl rfl 26 zeroC HR4.out.zero (by kernel_rfl) (by kernel_rfl) (by kernel_rfl) ?_)
                exact bodyPost_ret (v := .tuple #[.agg zeroC, .int .i64 12]) (results_cell_row_tmp rfl _ _ w.heap.size 26 zeroC (0, 0) _ rfl (setRow_heap _ _ _ _ _ _ HR4.out.zero) Try.underlying26 rfl (by kernel_rfl) _ rfl) rfl (parsed_none H1.out (below_setRow HR4.out.below (Nat.le_refl _) _))
      by_cases c23 : f0.toNat = 23
      · have hcand : cand = ⟨f0, at16 l 1, at16 l 3, at16 l 5, numsN (l.drop 10), []⟩ := by rw [HCD.out]; simp [c23]
        have HE := Lib.hid hcand
        have e5 : ((f0.toNat : Int) == 5) = false := by simp; omega
        have e6 : ((f0.toNat : Int) == 6) = false := by simp; omega
        have e15 : ((f0.toNat : Int) == 15) = false := by simp; omega
        have e16 : ((f0.toNat : Int) == 16) = false := by simp; omega
        have e23 : ((f0.toNat : Int) == 23) = true := by simp; omega
        clear c5 c6
        go_wp2_with fail
        refine HA3.out.mono ?_
        rintro e w3 ⟨rfl, q3, rfl⟩
        have HRM := Lib.hid ((HRB.out.on (below_drawn (Below.refl _ _) q3)).set 2 (.int .u16 ((at16 l 3).toNat : Int)))
        have hw0 := (HRB.out.on (below_drawn (Below.refl _ _) q3)).c 2
        have hwz := (HRB.out.on (below_drawn (Below.refl _ _) q3)).z 2
        have hx0 := HRM.out.c 0
        clear hv hz HA3
        clear c16 c23 HCD hcand
        have hwr5 : IntKind.u16.wrap ((at16 l 5).toNat : Int) = ((at16 l 5).toNat : Int) := IntWalk.u16_in _ (by have := (at16 l 5).toNat_lt; omega)
        have HA5 := Lib.hid (rAt_i w.heap.size (some ⟨bb, off, none⟩) n c l 5 5 rfl ((W2.drewN q3).setCell ⟨w.heap.size + 1, 2, none⟩ (.int .u16 ((at16 l 3).toNat : Int))) (HS0.out.below HRM.out.below (Nat.le_refl _)) (by omega))
        go_wp2_with fail
        refine HA5.out.mono ?_
        rintro e w5 ⟨rfl, q5, rfl⟩
        have HRN := Lib.hid ((HRM.out.on (below_drawn (Below.refl _ _) q5)).set 3 (.int .u16 ((at16 l 5).toNat : Int)))
        have hu0 := (HRM.out.on (below_drawn (Below.refl _ _) q5)).c 3
        have huz := (HRM.out.on (below_drawn (Below.refl _ _) q5)).z 3
        have hx1 := HRN.out.c 0
        clear hw0 hwz hx0 HA5
        go_wp2_with fail
        go_loopw [7] (fun i wr => ∃ (k p : Nat) (v : Value), Hid (p = 10 + 2 * k) ∧ p ≤ n + 10 ∧ i = .int .i64 (p : Int) ∧ RB w wr (w.heap.size + 1) #[.int .u8 (f0.toNat : Int), .int .u16 ((at16 l 1).toNat : Int), .int .u16 ((at16 l 3).toNat : Int), .int .u16 ((at16 l 5).toNat : Int), v, .slice none 0 0] ∧ wr.ownsRow (w.heap.size + 2) 22 1 v k (((numsN (l.drop 10)).take k).map b16)) (fun i _ => n + 10 + 2 - (intOf i).toNat)
        case atStart => exact ⟨0, 10, .slice none 0 0, Lib.hid rfl, by omega, rfl, HRN.out, by simpa using World.ownsRow_nil _ _ _ _⟩
        case round =>
          obtain ⟨k, p, v, HP, hpn, rfl, hrb, ho⟩ := hrel
          have HRK := Lib.hid hrb
          have HO := Lib.hid ho
          have hgz := hrb.glt
          have hp := HP.out
          clear hrb ho HRN hu0 huz hx1
          by_cases hlt : p + 1 < n
          · have t3 : decide ((p : Int) + 1 < (n : Int)) = true := by simp; omega
            have HAK := fun q => Lib.hid (rAt_i w.heap.size (some ⟨bb, off, none⟩) n c l p (p : Int) rfl (wr.drewN q) ((HS0.out.below HRK.out.below (Nat.le_refl _)).drawn q) (by omega))
            have HOq := fun q => Lib.hid (show (wr.drewN q).ownsRow (w.heap.size + 2) 22 1 v k (((numsN (l.drop 10)).take k).map b16) from HO.out)
            have hwk : IntKind.u16.wrap ((at16 l p).toNat : Int) = ((at16 l p).toNat : Int) := IntWalk.u16_in _ (by have := (at16 l p).toNat_lt; omega)
            have HNX : Hid (((numsN (l.drop 10)).take k).map b16 ++ [b16 (at16 l p)] = ((numsN (l.drop 10)).take (k + 1)).map b16) := Lib.hid (by rw [hp]; exact nums_next (by rw [HLN.out]; omega))
            obtain ⟨iW, hi, hz0, hz1, hz2⟩ := info_parts info16
            have hz2' : iW.bytes = 2 := hz2
            have hkn : k ≤ n := by omega
            have hq4 : wr.cell? ⟨w.heap.size + 1, 4, none⟩ = some v := HRK.out.c 4
            have hgne : ¬ w.heap.size + 1 = wr.heap.size := by omega
            clear hp
            generalize at16 l p = nx at *
            have hqq : ∀ q, ((wr.drewN q).alloc (.cells #[.int .u16 (nx.toNat : Int)] 22)).cell? ⟨w.heap.size + 1, 4, none⟩ = some v := fun q => (World.cell?_of_block (w := wr) (a := ⟨w.heap.size + 1, 4, none⟩) (Below.heap_alloc (wr.drewN q) _ _ (by show w.heap.size + 1 < wr.heap.size; omega))).trans hq4
            go_wp2_with fail
            go_region_law (first
              | (rw [if_pos (by rfl)]; go_simp; go_at_call 58; refine (HAK 1).out.mono ?_; rintro e w4 ⟨rfl, q4, rfl⟩; go_wp2_with fail)
              | (revert q4; intro q4; (refine step_append_grew (by rfl) (.tmp 105) (.tmp 110) 23 (by rfl) (w.heap.size + 2) 22 iW (.int .u16 0) 2 Try.underlying23 hi hz0 hz1 hz2' rfl v k _ (by rfl) ((HOq (1 + q4)).out.alloc (.cells #[b16 nx] 22)) ⟨wr.heap.size, 0, none⟩ 1 1 [b16 nx] (by rfl) (by rfl) (new_cells (wr.drewN (1 + q4)) #[b16 nx] _) (by intro u hu; simp at hu; subst hu; rfl) (by omega) (by unfold maxLen; omega) (by omega) (by show w.heap.size + 2 ≤ ((wr.drewN (1 + q4)).alloc _).heap.size; rw [World.size_alloc]; show w.heap.size + 2 ≤ wr.heap.size + 1; omega) ?_); intro v5 w5 hown5 hg5; rw [HNX.out] at hown5; have HO5 := Lib.hid hown5; have HR5 := Lib.hid (HRK.out.grewQ HO.out hg5); have hv5 := HR5.out.c 4; have hz5 := HR5.out.z 4; clear hown5 hg5; obtain ⟨a5, c5, rfl, -⟩ := Sl.of_own HO5.out))
            all_goals
              go_wp2_with fail
              go_roundw
              case rel => exact ⟨k + 1, p + 2, .slice a5 (k + 1) c5, Lib.hid (by have := HP.out; omega), by omega, by go_num, HR5.out.set 4 _, ownsRow_setCell_below HO5.out (by simp) _⟩
              case measure => simp [intOf]; omega
          · have t3 : decide ((p : Int) + 1 < (n : Int)) = false := by simp; omega
            have hall : (numsN (l.drop 10)).take k = numsN (l.drop 10) := List.take_of_length_le (by rw [length_numsN, List.length_drop, HLN.out]; omega)
            have ho := HO.out
            rw [hall] at ho
            obtain ⟨a5, c5, rfl, hs5⟩ := Sl.of_own ho
            have hk5 := hs5.len
            have HUP := Lib.hid (fun x (hx : a5 = some x) => (ho.lt x.block (by rw [hx]; rfl)).1)
            have HQ : Hid (RQ w wr cand a5 c5 none 0) := Lib.hid (by
              rw [HE.out]
              refine ⟨?_, ⟨hs5.norm, Sl.none_⟩, fun x hx => ?_, by have := HLN.out; simp only [length_numsN, List.length_drop]; omega, by simp⟩
              · have h := HRK.out
                rw [← hk5] at h
                exact h
              · rcases hx with hx | hx
                · have := HUP.out x hx; omega
                · cases hx)
            have hx0 := HRK.out.c 0
            clear hs5 ho HO hall HRK HUP HE hk5 hp hgz
            generalize wr = W3 at *
            go_upto_region 24 with fail
            clear hx0
            have HFEW := HQ.out.few
            have HBY := Lib.hid (rBytes_any cand a5 c5 none 0 W3 HQ.out.at_ HFEW.1 HFEW.2)
            obtain ⟨qf, qa, qm, qt, ws, bs⟩ := cand
            simp only at HFEW
            have hx := fun o => HQ.out.box.c o
            go_wp2_with fail
            clear hx
            rcases HCP.out with ⟨h1, h2⟩ | ⟨h1, h2⟩
            · rw [h2] at HBY
              refine HBY.out.mono ?_
              rintro e w4 ⟨a4, c4, rfl, hs4, hb4, -⟩
              have HR4 := Lib.hid (HQ.out.on hb4)
              have tx1 := hs4.text (P := Try.prog) Try.underlying27 Try.underlying5 Try.underlying9
              have tx2 := (HS0.out.below HR4.out.box.below (Nat.le_refl _)).text (P := Try.prog) Try.underlying27 Try.underlying5 Try.underlying9
              have hse : ((str l).toList == (str l).toList) = true := by simp
              have hx := fun o => HR4.out.box.c o
              have H1 := Lib.hid h1
              clear hs4 hb4 HBY h1 h2 HCP HQ
              go_wp2_with (refine wpList_store_row rfl 26 (.tmp 2) (.tmp 128) rfl w.heap.size #[b8 qf, b16 qa, b16 qm, b16 qt, .slice a5 ws.length c5, .slice none bs.length 0] rfl rfl 26 zeroC HR4.out.box.zero (by kernel_rfl) (by kernel_rfl) (by kernel_rfl) ?_)
              exact bodyPost_ret (v := .tuple #[askV ⟨qf, qa, qm, qt, ws, bs⟩ a5 c5 none 0, .int .i64 0]) (results_cell_row_tmp rfl _ _ w.heap.size 26 _ (0, 0) _ rfl (setRow_heap _ _ _ _ _ _ HR4.out.box.zero) Try.underlying26 rfl (by kernel_rfl) _ rfl) rfl (parsed_some H1.out ⟨sl_row HR4.out.at_.words (fun x hx => HR4.out.up x (.inl hx)) _, sl_row HR4.out.at_.bits (fun x hx => HR4.out.up x (.inr hx)) _⟩ (below_setRow HR4.out.box.below (Nat.le_refl _) _) (fun x hx => Nat.le_of_lt (HR4.out.up x hx)))
            · have H1 := Lib.hid h1
              cases hbn : bytesN ⟨qf, qa, qm, qt, ws, bs⟩ with
              | none =>
                rw [hbn] at HBY
                clear h1 h2 HCP hbn
                refine HBY.out.mono ?_
                rintro e w4 ⟨rfl, hb4⟩
                have HR4 := Lib.hid (HQ.out.box.on hb4)
                clear hb4 HBY HQ
                go_wp2_with (refine wpList_store_row rfl 26 (.tmp 2) (.tmp 127) rfl w.heap.size zeroC rfl rfl 26 zeroC HR4.out.zero (by kernel_rfl) (by kernel_rfl) (by kernel_rfl) ?_)
                exact bodyPost_ret (v := .tuple #[.agg zeroC, .int .i64 12]) (results_cell_row_tmp rfl _ _ w.heap.size 26 zeroC (0, 0) _ rfl (setRow_heap _ _ _ _ _ _ HR4.out.zero) Try.underlying26 rfl (by kernel_rfl) _ rfl) rfl (parsed_none H1.out (below_setRow HR4.out.below (Nat.le_refl _) _))
              | some l2 =>
                have hne : l2 ≠ l := fun h => h2 (by rw [hbn, h])
                have hse : ((str l2).toList == (str l).toList) = false := by
                  rw [beq_eq_false_iff_ne]
                  intro h
                  apply hne
                  have h3 : (str l2).toList = (str l).toList := h
                  simpa [str] using h3
                rw [hbn] at HBY
                clear h1 h2 HCP hbn hne
                refine HBY.out.mono ?_
                rintro e w4 ⟨a4, c4, rfl, hs4, hb4, -⟩
                have HR4 := Lib.hid (HQ.out.box.on hb4)
                have tx1 := hs4.text (P := Try.prog) Try.underlying27 Try.underlying5 Try.underlying9
                have tx2 := (HS0.out.below HR4.out.below (Nat.le_refl _)).text (P := Try.prog) Try.underlying27 Try.underlying5 Try.underlying9
                clear hs4 hb4 HBY HQ
                go_wp2_with (refine wpList_store_row rfl 26 (.tmp 2) (.tmp 127) rfl w.heap.size zeroC rfl rfl 26 zeroC HR4.out.zero (by kernel_rfl) (by kernel_rfl) (by kernel_rfl) ?_)
                exact bodyPost_ret (v := .tuple #[.agg zeroC, .int .i64 12]) (results_cell_row_tmp rfl _ _ w.heap.size 26 zeroC (0, 0) _ rfl (setRow_heap _ _ _ _ _ _ HR4.out.zero) Try.underlying26 rfl (by kernel_rfl) _ rfl) rfl (parsed_none H1.out (below_setRow HR4.out.below (Nat.le_refl _) _))
      by_cases c15 : f0.toNat = 15
      · have hcand : cand = ⟨f0, at16 l 1, at16 l 3, 0, [], (unpackN (l.drop 6)).take (at16 l 3).toNat⟩ := by rw [HCD.out]; simp [c15]
        have HE := Lib.hid hcand
        have e5 : ((f0.toNat : Int) == 5) = false := by simp; omega
        have e6 : ((f0.toNat : Int) == 6) = false := by simp; omega
        have e15 : ((f0.toNat : Int) == 15) = true := by simp; omega
        have e16 : ((f0.toNat : Int) == 16) = false := by simp; omega
        have e23 : ((f0.toNat : Int) == 23) = false := by simp; omega
        clear c5 c6
        go_wp2_with fail
        refine HA3.out.mono ?_
        rintro e w3 ⟨rfl, q3, rfl⟩
        have HRM := Lib.hid ((HRB.out.on (below_drawn (Below.refl _ _) q3)).set 2 (.int .u16 ((at16 l 3).toNat : Int)))
        have hw0 := (HRB.out.on (below_drawn (Below.refl _ _) q3)).c 2
        have hwz := (HRB.out.on (below_drawn (Below.refl _ _) q3)).z 2
        have hx0 := HRM.out.c 0
        clear hv hz HA3
        clear c16 c23 c15 HCD hcand
        have hmany := (at16 l 3).toNat_lt
        generalize at16 l 3 = m3 at *
        go_wp2_with fail
        go_loopw [6] (fun i wr => ∃ (k : Nat) (v : Value), k ≤ m3.toNat ∧ k ≤ 8 * (n - 6) ∧ i = .int .i64 (k : Int) ∧ RB w wr (w.heap.size + 1) #[.int .u8 (f0.toNat : Int), .int .u16 ((at16 l 1).toNat : Int), .int .u16 (m3.toNat : Int), .int .u16 0, .slice none 0 0, v] ∧ wr.ownsRow (w.heap.size + 2) 4 1 v k (((unpackN (l.drop 6)).take k).map Value.bool)) (fun i _ => m3.toNat - (intOf i).toNat)
        case atStart => exact ⟨0, .slice none 0 0, by omega, by omega, rfl, HRM.out, by simpa using World.ownsRow_nil _ _ _ _⟩
        case round =>
          obtain ⟨k, v, hkm, hk8, rfl, hrb, ho⟩ := hrel
          have HRK := Lib.hid hrb
          have HO := Lib.hid ho
          have hgz := hrb.glt
          have hy2 := hrb.c 2
          clear hrb ho HRM hw0 hwz hx0
          by_cases hlt : k < m3.toNat ∧ 6 + k / 8 < n
          · have t3 : decide ((k : Int) < (m3.toNat : Int)) = true := by simp; omega
            have t3n : decide (k < m3.toNat) = true := by simp; omega
            have t4 : decide (6 + (k : Int) / 8 < (n : Int)) = true := by simp; omega
            obtain ⟨b7, off7, x, hab7, hbk7, hx7, hcell7⟩ := HS0.out.at_ (k := 6 + k / 8) hlt.2
            injection hab7 with hab7
            injection hab7 with e71 e72
            subst e71 e72
            have HNX : Hid (((unpackN (l.drop 6)).take k).map Value.bool ++ [.bool (bitOf x.toNat (k % 8))] = ((unpackN (l.drop 6)).take (k + 1)).map Value.bool) := Lib.hid (by
              have h1 : (l.drop 6)[k / 8]? = some x := by rw [List.getElem?_drop]; exact hx7
              have h2 := unpack_at6 h1
              have h3 : (unpackN (l.drop 6))[k]? = some (bitOf x.toNat (k % 8)) := by
                rw [← h2, List.getD_eq_getElem?_getD, List.getElem?_eq_getElem (by rw [length_unpackN, List.length_drop, HLN.out]; omega)]; rfl
              rw [List.take_add_one, h3]
              simp)
            have HCE := Lib.hid ((HRK.out.below.cell (p := ⟨bb, off + (6 + k / 8), none⟩) hbk7).trans hcell7)
            have hcn := HS0.out.nle
            have hcx := HS0.out.cle
            have HUN := fun q => Lib.hid (rUnpack_any (some ⟨bb, off + (6 + k / 8), none⟩) 1 (c - (6 + k / 8)) [x] (wr.drewN q) ⟨rfl, by omega, by omega, (fun h => by cases h), fun _ => ⟨bb, off + (6 + k / 8), rfl, Nat.lt_of_lt_of_le hbk7 HRK.out.below.size, fun i y hy => by
              cases i with
              | zero => injection hy with hy; subst hy; exact HCE.out
              | succ i => cases hy⟩⟩ (by omega))
            have hq5 : wr.cell? ⟨w.heap.size + 1, 5, none⟩ = some v := HRK.out.c 5
            obtain ⟨ee, HEE⟩ : ∃ e : Nat, Hid (e = k / 8) := ⟨_, Lib.hid rfl⟩
            obtain ⟨r, HRR⟩ : ∃ e : Nat, Hid (e = k % 8) := ⟨_, Lib.hid rfl⟩
            obtain ⟨d, HDD⟩ : ∃ e : Nat, Hid (e = 6 + k / 8) := ⟨_, Lib.hid rfl⟩
            rw [← HDD.out] at HCE HUN
            rw [← HRR.out] at HNX
            have g5 : r < 8 := by rw [HRR.out]; omega
            have g6 : d < n := by rw [HDD.out]; exact hlt.2
            have hkm1 : k + 1 ≤ m3.toNat := hlt.1
            clear hx7 hcell7 hlt
            go_upto_region 18 with fail
            have g1 : (k : Int) / 8 = (ee : Int) := by rw [HEE.out]; omega
            have g1a : IntKind.i64.wrap ((k : Int) / 8) = (ee : Int) := by rw [HEE.out, IntKind.wrap_i64]; omega
            have g1b : (k : Int).tdiv 8 = (ee : Int) := by rw [HEE.out, Int.tdiv_eq_ediv_of_nonneg (by omega)]; omega
            have g1d : IntKind.i64.wrap (ee : Int) = (ee : Int) := by rw [HEE.out, IntKind.wrap_i64]; omega
            have g2 : (6 : Int) + (ee : Int) = (d : Int) := by rw [HEE.out, HDD.out]; omega
            have g2b : IntKind.i64.wrap (d : Int) = (d : Int) := by rw [IntKind.wrap_i64]; omega
            have g3 : IntKind.i64.wrap ((d : Int) + 1) = ((d + 1 : Nat) : Int) := by rw [IntKind.wrap_i64]; omega
            have g4 : (k : Int).tmod 8 = (r : Int) := by rw [HRR.out, Int.tmod_eq_emod_of_nonneg (by omega)]; omega
            have g4b : (k : Int) % 8 = (r : Int) := by rw [HRR.out]; omega
            have g4c : IntKind.i64.wrap (r : Int) = (r : Int) := by rw [IntKind.wrap_i64]; omega
            clear t3 t3n t4
            have HOq := fun q => Lib.hid (show (wr.drewN q).ownsRow (w.heap.size + 2) 4 1 v k (((unpackN (l.drop 6)).take k).map Value.bool) from HO.out)
            obtain ⟨iW, hi, hz0, hz1, hz2⟩ := info_parts infoB
            have hz2' : iW.bytes = 1 := hz2
            have hd1 : d < c := by omega
            have gd0 : (0 : Int) ≤ ((d : Nat) : Int) := by omega
            have gd1 : ((d : Nat) : Int) ≤ ((d + 1 : Nat) : Int) := by omega
            have gd2 : ((d + 1 : Nat) : Int) ≤ (c : Int) := by omega
            have gr0 : (0 : Int) ≤ ((r : Nat) : Int) := by omega
            have gr1 : ((r : Nat) : Int) < 8 := by omega
            have gcd : ¬ c = d := by omega
            have gd3 : (0 : Int) ≤ (d : Int) + 1 := by omega
            have gd4 : (d : Int) + 1 ≤ (c : Int) := by omega
            have HBT : Hid ((unpackN [x])[r]? = some (bitOf x.toNat r)) := Lib.hid (by
              have h2 := getD_unpackN [x] 0 (k := r) g5
              rw [Nat.mul_zero, Nat.zero_add] at h2
              rw [List.getElem?_eq_getElem (by rw [length_unpackN]; simp; omega)]
              rw [List.getD_eq_getElem?_getD, List.getElem?_eq_getElem (by rw [length_unpackN]; simp; omega)] at h2
              simp only [Option.getD_some] at h2
              rw [h2]; rfl)
            have hl8 : (unpackN [x]).length = 8 := by rw [length_unpackN]; rfl
            have HL8 := Lib.hid hl8
            have hkn : k ≤ 8000000 := by omega
            generalize bitOf x.toNat r = bt at *
            generalize unpackN [x] = u7 at *
            clear HCE hl8
            go_region_law (first
              | (rw [if_pos (by rfl)]; go_simp; go_at_call 23; refine (HUN 1).out.mono ?_; rintro e w4 ⟨a4, c4, rfl, hs4, hb4, hx4⟩; rw [HL8.out] at hs4 ⊢; obtain ⟨b8a, o8, y, rfl, hbl, hy, hcell8⟩ := hs4.at_ (k := r) g5; (have hyb := Option.some.inj (hy.symm.trans HBT.out)); subst hyb; (have HO4 := Lib.hid (own_below4 (HOq 1).out hb4)); (have HR4 := Lib.hid (HRK.out.on ((below_drawn (Below.refl wr.heap.size wr) 1).trans hb4))); have hz4 := hb4.size; have hq5b : w4.cell? ⟨w.heap.size + 1, 5, none⟩ = some v := HR4.out.c 5; have hgn4 : ¬ w.heap.size + 1 = w4.heap.size := (by have := HR4.out.glt; omega); have hq5c : (w4.alloc (.cells #[.bool y] 4)).cell? ⟨w.heap.size + 1, 5, none⟩ = some v := (World.cell?_alloc_lt w4 _ ⟨w.heap.size + 1, 5, none⟩ HR4.out.glt).trans hq5b; clear hs4 hb4 hx4 hbl hy; go_wp2_with fail)
              | (revert HO4; intro HO4; go_loud (refine step_append_grew (by rfl) (.tmp 68) (.tmp 85) 24 (by rfl) (w.heap.size + 2) 4 iW (.bool false) 1 Try.underlying24 hi hz0 hz1 hz2' rfl v k _ (by rfl) (HO4.out.alloc (.cells #[.bool y] 4)) ⟨w4.heap.size, 0, none⟩ 1 1 [.bool y] (by rfl) (by rfl) (new_cells w4 #[.bool y] _) (by intro u hu; simp at hu; subst hu; rfl) (by omega) (by unfold maxLen; omega) (by omega) (by have := HR4.out.glt; rw [World.size_alloc]; omega) ?_); intro v5 w5 hown5 hg5; rw [HNX.out] at hown5; have HO5 := Lib.hid hown5; have HR5 := Lib.hid (HR4.out.grewQ (j := 0) HO4.out hg5); have hv5 := HR5.out.c 5; have hz5 := HR5.out.z 5; clear hown5 hg5; obtain ⟨a5, c5, rfl, -⟩ := Sl.of_own HO5.out))
            all_goals
              go_wp2_with fail
              go_roundw
              case rel => exact ⟨k + 1, .slice a5 (k + 1) c5, by omega, by have := HDD.out; omega, by go_num, HR5.out.set 5 _, ownsRow_setCell_below HO5.out (by simp) _⟩
              case measure => simp [intOf]; omega
          · have hall : (unpackN (l.drop 6)).take k = (unpackN (l.drop 6)).take m3.toNat := by
              by_cases hk : k = m3.toNat
              · rw [hk]
              · have h8 : (unpackN (l.drop 6)).length ≤ k := by
                  have := HLN.out
                  rw [length_unpackN, List.length_drop]
                  omega
                rw [List.take_of_length_le h8, List.take_of_length_le (by omega)]
            have ho := HO.out
            rw [hall] at ho
            obtain ⟨a5, c5, rfl, hs5⟩ := Sl.of_own ho
            have hk5 := hs5.len
            have HUP := Lib.hid (fun x (hx : a5 = some x) => (ho.lt x.block (by rw [hx]; rfl)).1)
            have HQ : Hid (RQ w wr cand none 0 a5 c5) := Lib.hid (by
              rw [HE.out]
              refine ⟨?_, ⟨Sl.none_, hs5.norm⟩, fun x hx => ?_, by simp, by simp only; omega⟩
              · have h := HRK.out
                rw [← hk5] at h
                exact h
              · rcases hx with hx | hx
                · cases hx
                · have := HUP.out x hx; omega)
            have hx0 := HRK.out.c 0
            have hk32 : k ≤ 65536 := by omega
            clear hs5 ho HO hall HUP HE hk5 hgz
            by_cases hkm2 : k < m3.toNat
            · have t3 : decide ((k : Int) < (m3.toNat : Int)) = true := by simp; omega
              have t3n : decide (k < m3.toNat) = true := by simp; omega
              have t4 : decide (6 + (k : Int) / 8 < (n : Int)) = false := by simp; omega
              clear hlt HRK
              generalize wr = W3 at *
              go_upto_region 24 with fail
              clear hx0 hy2
              have HFEW := HQ.out.few
              have HBY := Lib.hid (rBytes_any cand none 0 a5 c5 W3 HQ.out.at_ HFEW.1 HFEW.2)
              obtain ⟨qf, qa, qm, qt, ws, bs⟩ := cand
              simp only at HFEW
              have hx := fun o => HQ.out.box.c o
              go_wp2_with fail
              clear hx
              rcases HCP.out with ⟨h1, h2⟩ | ⟨h1, h2⟩
              · rw [h2] at HBY
                refine HBY.out.mono ?_
                rintro e w4 ⟨a4, c4, rfl, hs4, hb4, -⟩
                have HR4 := Lib.hid (HQ.out.on hb4)
                have tx1 := hs4.text (P := Try.prog) Try.underlying27 Try.underlying5 Try.underlying9
                have tx2 := (HS0.out.below HR4.out.box.below (Nat.le_refl _)).text (P := Try.prog) Try.underlying27 Try.underlying5 Try.underlying9
                have hse : ((str l).toList == (str l).toList) = true := by simp
                have hx := fun o => HR4.out.box.c o
                have H1 := Lib.hid h1
                clear hs4 hb4 HBY h1 h2 HCP HQ
                go_wp2_with (refine wpList_store_row rfl 26 (.tmp 2) (.tmp 128) rfl w.heap.size #[b8 qf, b16 qa, b16 qm, b16 qt, .slice none ws.length 0, .slice a5 bs.length c5] rfl rfl 26 zeroC HR4.out.box.zero (by kernel_rfl) (by kernel_rfl) (by kernel_rfl) ?_)
                exact bodyPost_ret (v := .tuple #[askV ⟨qf, qa, qm, qt, ws, bs⟩ none 0 a5 c5, .int .i64 0]) (results_cell_row_tmp rfl _ _ w.heap.size 26 _ (0, 0) _ rfl (setRow_heap _ _ _ _ _ _ HR4.out.box.zero) Try.underlying26 rfl (by kernel_rfl) _ rfl) rfl (parsed_some H1.out ⟨sl_row HR4.out.at_.words (fun x hx => HR4.out.up x (.inl hx)) _, sl_row HR4.out.at_.bits (fun x hx => HR4.out.up x (.inr hx)) _⟩ (below_setRow HR4.out.box.below (Nat.le_refl _) _) (fun x hx => Nat.le_of_lt (HR4.out.up x hx)))
              · have H1 := Lib.hid h1
                cases hbn : bytesN ⟨qf, qa, qm, qt, ws, bs⟩ with
                | none =>
                  rw [hbn] at HBY
                  clear h1 h2 HCP hbn
                  refine HBY.out.mono ?_
                  rintro e w4 ⟨rfl, hb4⟩
                  have HR4 := Lib.hid (HQ.out.box.on hb4)
                  clear hb4 HBY HQ
                  go_wp2_with (refine wpList_store_row rfl 26 (.tmp 2) (.tmp 127) rfl w.heap.size zeroC rfl rfl 26 zeroC HR4.out.zero (by kernel_rfl) (by kernel_rfl) (by kernel_rfl) ?_)
                  exact bodyPost_ret (v := .tuple #[.agg zeroC, .int .i64 12]) (results_cell_row_tmp rfl _ _ w.heap.size 26 zeroC (0, 0) _ rfl (setRow_heap _ _ _ _ _ _ HR4.out.zero) Try.underlying26 rfl (by kernel_rfl) _ rfl) rfl (parsed_none H1.out (below_setRow HR4.out.below (Nat.le_refl _) _))
                | some l2 =>
                  have hne : l2 ≠ l := fun h => h2 (by rw [hbn, h])
                  have hse : ((str l2).toList == (str l).toList) = false := by
                    rw [beq_eq_false_iff_ne]
                    intro h
                    apply hne
                    have h3 : (str l2).toList = (str l).toList := h
                    simpa [str] using h3
                  rw [hbn] at HBY
                  clear h1 h2 HCP hbn hne
                  refine HBY.out.mono ?_
                  rintro e w4 ⟨a4, c4, rfl, hs4, hb4, -⟩
                  have HR4 := Lib.hid (HQ.out.box.on hb4)
                  have tx1 := hs4.text (P := Try.prog) Try.underlying27 Try.underlying5 Try.underlying9
                  have tx2 := (HS0.out.below HR4.out.below (Nat.le_refl _)).text (P := Try.prog) Try.underlying27 Try.underlying5 Try.underlying9
                  clear hs4 hb4 HBY HQ
                  go_wp2_with (refine wpList_store_row rfl 26 (.tmp 2) (.tmp 127) rfl w.heap.size zeroC rfl rfl 26 zeroC HR4.out.zero (by kernel_rfl) (by kernel_rfl) (by kernel_rfl) ?_)
                  exact bodyPost_ret (v := .tuple #[.agg zeroC, .int .i64 12]) (results_cell_row_tmp rfl _ _ w.heap.size 26 zeroC (0, 0) _ rfl (setRow_heap _ _ _ _ _ _ HR4.out.zero) Try.underlying26 rfl (by kernel_rfl) _ rfl) rfl (parsed_none H1.out (below_setRow HR4.out.below (Nat.le_refl _) _))
            · have t3 : decide ((k : Int) < (m3.toNat : Int)) = false := by simp; omega
              have t3n : decide (k < m3.toNat) = false := by simp; omega
              clear hlt HRK
              generalize wr = W3 at *
              go_upto_region 24 with fail
              clear hx0 hy2
              have HFEW := HQ.out.few
              have HBY := Lib.hid (rBytes_any cand none 0 a5 c5 W3 HQ.out.at_ HFEW.1 HFEW.2)
              obtain ⟨qf, qa, qm, qt, ws, bs⟩ := cand
              simp only at HFEW
              have hx := fun o => HQ.out.box.c o
              go_wp2_with fail
              clear hx
              rcases HCP.out with ⟨h1, h2⟩ | ⟨h1, h2⟩
              · rw [h2] at HBY
                refine HBY.out.mono ?_
                rintro e w4 ⟨a4, c4, rfl, hs4, hb4, -⟩
                have HR4 := Lib.hid (HQ.out.on hb4)
                have tx1 := hs4.text (P := Try.prog) Try.underlying27 Try.underlying5 Try.underlying9
                have tx2 := (HS0.out.below HR4.out.box.below (Nat.le_refl _)).text (P := Try.prog) Try.underlying27 Try.underlying5 Try.underlying9
                have hse : ((str l).toList == (str l).toList) = true := by simp
                have hx := fun o => HR4.out.box.c o
                have H1 := Lib.hid h1
                clear hs4 hb4 HBY h1 h2 HCP HQ
                go_wp2_with (refine wpList_store_row rfl 26 (.tmp 2) (.tmp 128) rfl w.heap.size #[b8 qf, b16 qa, b16 qm, b16 qt, .slice none ws.length 0, .slice a5 bs.length c5] rfl rfl 26 zeroC HR4.out.box.zero (by kernel_rfl) (by kernel_rfl) (by kernel_rfl) ?_)
                exact bodyPost_ret (v := .tuple #[askV ⟨qf, qa, qm, qt, ws, bs⟩ none 0 a5 c5, .int .i64 0]) (results_cell_row_tmp rfl _ _ w.heap.size 26 _ (0, 0) _ rfl (setRow_heap _ _ _ _ _ _ HR4.out.box.zero) Try.underlying26 rfl (by kernel_rfl) _ rfl) rfl (parsed_some H1.out ⟨sl_row HR4.out.at_.words (fun x hx => HR4.out.up x (.inl hx)) _, sl_row HR4.out.at_.bits (fun x hx => HR4.out.up x (.inr hx)) _⟩ (below_setRow HR4.out.box.below (Nat.le_refl _) _) (fun x hx => Nat.le_of_lt (HR4.out.up x hx)))
              · have H1 := Lib.hid h1
                cases hbn : bytesN ⟨qf, qa, qm, qt, ws, bs⟩ with
                | none =>
                  rw [hbn] at HBY
                  clear h1 h2 HCP hbn
                  refine HBY.out.mono ?_
                  rintro e w4 ⟨rfl, hb4⟩
                  have HR4 := Lib.hid (HQ.out.box.on hb4)
                  clear hb4 HBY HQ
                  go_wp2_with (refine wpList_store_row rfl 26 (.tmp 2) (.tmp 127) rfl w.heap.size zeroC rfl rfl 26 zeroC HR4.out.zero (by kernel_rfl) (by kernel_rfl) (by kernel_rfl) ?_)
                  exact bodyPost_ret (v := .tuple #[.agg zeroC, .int .i64 12]) (results_cell_row_tmp rfl _ _ w.heap.size 26 zeroC (0, 0) _ rfl (setRow_heap _ _ _ _ _ _ HR4.out.zero) Try.underlying26 rfl (by kernel_rfl) _ rfl) rfl (parsed_none H1.out (below_setRow HR4.out.below (Nat.le_refl _) _))
                | some l2 =>
                  have hne : l2 ≠ l := fun h => h2 (by rw [hbn, h])
                  have hse : ((str l2).toList == (str l).toList) = false := by
                    rw [beq_eq_false_iff_ne]
                    intro h
                    apply hne
                    have h3 : (str l2).toList = (str l).toList := h
                    simpa [str] using h3
                  rw [hbn] at HBY
                  clear h1 h2 HCP hbn hne
                  refine HBY.out.mono ?_
                  rintro e w4 ⟨a4, c4, rfl, hs4, hb4, -⟩
                  have HR4 := Lib.hid (HQ.out.box.on hb4)
                  have tx1 := hs4.text (P := Try.prog) Try.underlying27 Try.underlying5 Try.underlying9
                  have tx2 := (HS0.out.below HR4.out.below (Nat.le_refl _)).text (P := Try.prog) Try.underlying27 Try.underlying5 Try.underlying9
                  clear hs4 hb4 HBY HQ
                  go_wp2_with (refine wpList_store_row rfl 26 (.tmp 2) (.tmp 127) rfl w.heap.size zeroC rfl rfl 26 zeroC HR4.out.zero (by kernel_rfl) (by kernel_rfl) (by kernel_rfl) ?_)
                  exact bodyPost_ret (v := .tuple #[.agg zeroC, .int .i64 12]) (results_cell_row_tmp rfl _ _ w.heap.size 26 zeroC (0, 0) _ rfl (setRow_heap _ _ _ _ _ _ HR4.out.zero) Try.underlying26 rfl (by kernel_rfl) _ rfl) rfl (parsed_none H1.out (below_setRow HR4.out.below (Nat.le_refl _) _))
      · have hcand : cand = ⟨f0, at16 l 1, at16 l 3, 0, [], []⟩ := by rw [HCD.out]; simp [c5, c6, c15, c16, c23]
        have HE := Lib.hid hcand
        have e5 : ((f0.toNat : Int) == 5) = false := by simp; omega
        have e6 : ((f0.toNat : Int) == 6) = false := by simp; omega
        have e15 : ((f0.toNat : Int) == 15) = false := by simp; omega
        have e16 : ((f0.toNat : Int) == 16) = false := by simp; omega
        have e23 : ((f0.toNat : Int) == 23) = false := by simp; omega
        clear c5 c6
        go_wp2_with fail
        refine HA3.out.mono ?_
        rintro e w3 ⟨rfl, q3, rfl⟩
        have HRM := Lib.hid ((HRB.out.on (below_drawn (Below.refl _ _) q3)).set 2 (.int .u16 ((at16 l 3).toNat : Int)))
        have hw0 := (HRB.out.on (below_drawn (Below.refl _ _) q3)).c 2
        have hwz := (HRB.out.on (below_drawn (Below.refl _ _) q3)).z 2
        have hx0 := HRM.out.c 0
        clear hv hz HA3
        clear c15 c16 c23 HCD hcand
        have HQ : Hid (RQ w ((W2.drewN q3).setCell ⟨w.heap.size + 1, 2, none⟩ (.int .u16 ((at16 l 3).toNat : Int))) cand none 0 none 0) := Lib.hid (by
          rw [HE.out]
          exact ⟨HRM.out, ⟨Sl.none_, Sl.none_⟩, fun x hx => (by rcases hx with hx | hx <;> cases hx), by simp⟩)
        clear HE
        go_upto_region 24 with fail
        clear hw0 hwz hx0 HRM HRB
        generalize (W2.drewN q3).setCell ⟨w.heap.size + 1, 2, none⟩ (.int .u16 ((at16 l 3).toNat : Int)) = W3 at *
        have HFEW := HQ.out.few
        have HBY := Lib.hid (rBytes_any cand none 0 none 0 W3 HQ.out.at_ HFEW.1 HFEW.2)
        obtain ⟨qf, qa, qm, qt, ws, bs⟩ := cand
        simp only at HFEW
        have hx := fun o => HQ.out.box.c o
        go_wp2_with fail
        clear hx
        rcases HCP.out with ⟨h1, h2⟩ | ⟨h1, h2⟩
        · rw [h2] at HBY
          refine HBY.out.mono ?_
          rintro e w4 ⟨a4, c4, rfl, hs4, hb4, -⟩
          have HR4 := Lib.hid (HQ.out.on hb4)
          have tx1 := hs4.text (P := Try.prog) Try.underlying27 Try.underlying5 Try.underlying9
          have tx2 := (HS0.out.below HR4.out.box.below (Nat.le_refl _)).text (P := Try.prog) Try.underlying27 Try.underlying5 Try.underlying9
          have hse : ((str l).toList == (str l).toList) = true := by simp
          have hx := fun o => HR4.out.box.c o
          have H1 := Lib.hid h1
          clear hs4 hb4 HBY h1 h2 HCP HQ
          go_wp2_with (refine wpList_store_row rfl 26 (.tmp 2) (.tmp 128) rfl w.heap.size #[b8 qf, b16 qa, b16 qm, b16 qt, .slice none ws.length 0, .slice none bs.length 0] rfl rfl 26 zeroC HR4.out.box.zero (by kernel_rfl) (by kernel_rfl) (by kernel_rfl) ?_)
          exact bodyPost_ret (v := .tuple #[askV ⟨qf, qa, qm, qt, ws, bs⟩ none 0 none 0, .int .i64 0]) (results_cell_row_tmp rfl _ _ w.heap.size 26 _ (0, 0) _ rfl (setRow_heap _ _ _ _ _ _ HR4.out.box.zero) Try.underlying26 rfl (by kernel_rfl) _ rfl) rfl (parsed_some H1.out ⟨sl_row HR4.out.at_.words (fun x hx => HR4.out.up x (.inl hx)) _, sl_row HR4.out.at_.bits (fun x hx => HR4.out.up x (.inr hx)) _⟩ (below_setRow HR4.out.box.below (Nat.le_refl _) _) (fun x hx => Nat.le_of_lt (HR4.out.up x hx)))
        · have H1 := Lib.hid h1
          cases hbn : bytesN ⟨qf, qa, qm, qt, ws, bs⟩ with
          | none =>
            rw [hbn] at HBY
            clear h1 h2 HCP hbn
            refine HBY.out.mono ?_
            rintro e w4 ⟨rfl, hb4⟩
            have HR4 := Lib.hid (HQ.out.box.on hb4)
            clear hb4 HBY HQ
            go_wp2_with (refine wpList_store_row rfl 26 (.tmp 2) (.tmp 127) rfl w.heap.size zeroC rfl rfl 26 zeroC HR4.out.zero (by kernel_rfl) (by kernel_rfl) (by kernel_rfl) ?_)
            exact bodyPost_ret (v := .tuple #[.agg zeroC, .int .i64 12]) (results_cell_row_tmp rfl _ _ w.heap.size 26 zeroC (0, 0) _ rfl (setRow_heap _ _ _ _ _ _ HR4.out.zero) Try.underlying26 rfl (by kernel_rfl) _ rfl) rfl (parsed_none H1.out (below_setRow HR4.out.below (Nat.le_refl _) _))
          | some l2 =>
            have hne : l2 ≠ l := fun h => h2 (by rw [hbn, h])
            have hse : ((str l2).toList == (str l).toList) = false := by
              rw [beq_eq_false_iff_ne]
              intro h
              apply hne
              have h3 : (str l2).toList = (str l).toList := h
              simpa [str] using h3
            rw [hbn] at HBY
            clear h1 h2 HCP hbn hne
            refine HBY.out.mono ?_
            rintro e w4 ⟨a4, c4, rfl, hs4, hb4, -⟩
            have HR4 := Lib.hid (HQ.out.box.on hb4)
            have tx1 := hs4.text (P := Try.prog) Try.underlying27 Try.underlying5 Try.underlying9
            have tx2 := (HS0.out.below HR4.out.below (Nat.le_refl _)).text (P := Try.prog) Try.underlying27 Try.underlying5 Try.underlying9
            clear hs4 hb4 HBY HQ
            go_wp2_with (refine wpList_store_row rfl 26 (.tmp 2) (.tmp 127) rfl w.heap.size zeroC rfl rfl 26 zeroC HR4.out.zero (by kernel_rfl) (by kernel_rfl) (by kernel_rfl) ?_)
            exact bodyPost_ret (v := .tuple #[.agg zeroC, .int .i64 12]) (results_cell_row_tmp rfl _ _ w.heap.size 26 zeroC (0, 0) _ rfl (setRow_heap _ _ _ _ _ _ HR4.out.zero) Try.underlying26 rfl (by kernel_rfl) _ rfl) rfl (parsed_none H1.out (below_setRow HR4.out.below (Nat.le_refl _) _))
end Go.Proofs.Ytenfcpdoingdeaa.RefW
