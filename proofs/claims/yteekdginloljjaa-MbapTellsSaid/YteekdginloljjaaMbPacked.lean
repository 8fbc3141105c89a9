/- Frames packed, one behind the other. -/
import Derived.Test.YteekdginloljjaaMbAwake
open Go.RowKit
namespace Go.Proofs.Yteekdginloljjaa.MbW
open MbM Mem

abbrev fmC (e : Fm) : List Value := [.int .u16 (e.x.tx.toNat : Int), b8 e.x.unit, .slice e.ap e.x.pdu.length e.cp]
def rowM (es : List Fm) : List Value := es.flatMap fmC
theorem rowM_snoc (es : List Fm) (e : Fm) : rowM (es ++ [e]) = rowM es ++ fmC e := by simp [rowM]
def good (es : List Fm) : List Fm := es.filter fun e => decide (Right e.x)
def flatM (es : List Fm) : List UInt8 := flat (es.map Fm.x)
theorem flatM_snoc (es : List Fm) (e : Fm) : flatM (es ++ [e]) = flatM es ++ packN e.x := by simp [flatM, flat]
theorem good_yes (es : List Fm) {e : Fm} (h : Right e.x) : good (es ++ [e]) = good es ++ [e] := by simp [good, h]
theorem good_no (es : List Fm) {e : Fm} (h : ¬ Right e.x) : good (es ++ [e]) = good es := by simp [good, h]
theorem good_len (es : List Fm) : (good es).length ≤ es.length := List.length_filter_le _ _
theorem flatM_len {es : List Fm} (h : ∀ e ∈ es, Right e.x) : (flatM es).length ≤ 260 * es.length := by
  induction es with
  | nil => simp [flatM, flat]
  | cons e es ih =>
    have h1 := (h e List.mem_cons_self).2
    have h2 := ih fun e he => h e (List.mem_cons_of_mem _ he)
    show (packN e.x ++ flatM es).length ≤ _
    rw [List.length_append, packN_length, List.length_cons]
    omega
theorem good_right (es : List Fm) : ∀ e ∈ good es, Right e.x := fun e he => by simpa using (List.mem_filter.1 he).2

/-- The frames, out of those that may be packed, and their bytes, in rows of the call's own. -/
def PackedTo (es : List Fm) (w : World) (e : Ending) (w' : World) : Prop :=
  ∃ v u, e = .returned (.tuple #[v, u]) ∧ w'.ownsRow w.heap.size 25 3 v es.length (rowM es) ∧ w'.ownsRow w.heap.size 5 1 u (flatM es).length ((flatM es).map b8) ∧ Below w.heap.size w w'

theorem own_ne {w : World} {b1 b2 : Nat} {e1 e2 : TypeId} {s1 s2 n1 n2 : Nat} {v u : Value} {xs ys : List Value} (h1 : w.ownsRow b1 e1 s1 v n1 xs) (h2 : w.ownsRow b2 e2 s2 u n2 ys) (hne : e1 ≠ e2) : u.ownBlock = none ∨ u.ownBlock ≠ v.ownBlock := by
  rcases h2.2 with ⟨rfl, _⟩ | ⟨g, cap, cur, rfl, _, hh, _⟩
  · exact .inl rfl
  · refine .inr fun e => ?_
    rcases h1.2 with ⟨rfl, _⟩ | ⟨g', cap', cur', rfl, _, hh', _⟩
    · simp [Value.ownBlock] at e
    · obtain rfl : g = g' := by simpa [Value.ownBlock] using e
      rw [hh] at hh'
      injection hh' with hh'
      injection hh' with _ ht
      exact hne ht.symm
theorem own_below {w w' : World} {b : Nat} {e : TypeId} {s n : Nat} {v : Value} {xs : List Value} (h : w.ownsRow b e s v n xs) (hb : Below w.heap.size w w') : w'.ownsRow b e s v n xs := h.kept (grown_below hb) (by cases v.ownBlock <;> simp)
theorem take_snoc {α : Type} {l : List α} {k : Nat} {x : α} (h : l[k]? = some x) : l.take (k + 1) = l.take k ++ [x] := by rw [List.take_add_one, h]; rfl

set_option maxRecDepth 100000 in
set_option maxHeartbeats 2000000 in
theorem packed_any (a : Option Addr) (n c : Nat) (es : List Fm) (w : World) (h : FrsAt w w.heap.size a n c es) :
    Calls Try.prog 17 #[.slice a n c] w (PackedTo (good (es.take 12)) w) := by
  have hn : n ≤ 9223372036854775807 := by have h1 := h.2.1; have h3 := h.2.2.1; unfold maxLen at h3; omega
  have hnc := h.2.1
  have hcm : c ≤ 9223372036854775807 := by have h3 := h.2.2.1; unfold maxLen at h3; exact h3
  have HH := Lib.hid h
  have hlen := h.1
  clear h
  obtain ⟨i0, hi, hz0, hz1, hz2⟩ := info_parts info8
  have hz2' : i0.bytes = 1 := hz2
  obtain ⟨iF, hF, hF0, hF1, hF2⟩ := info_parts infoF
  have hF2' : iF.bytes = 32 := hF2
  by_cases h12 : 12 < n
  · have t12 : decide ((12 : Int) < (n : Int)) = true := by simp; omega
    have h12i : (12 : Int) < (n : Int) := by omega
    go_enter Try.func17, Try.ntmps17
    go_wp2_with fail
    go_loopw [4, 5, 16] (fun v u i wr => ∃ k : Nat, k ≤ 12 ∧ i = .int .i64 (k : Int) ∧ wr.ownsRow w.heap.size 25 3 v (good (es.take k)).length (rowM (good (es.take k))) ∧ wr.ownsRow w.heap.size 5 1 u (flatM (good (es.take k))).length ((flatM (good (es.take k))).map b8) ∧ Below w.heap.size w wr) (fun _ _ i _ => 12 - (intOf i).toNat)
    case atStart => exact ⟨0, by omega, rfl, World.ownsRow_nil _ _ _ _, World.ownsRow_nil _ _ _ _, Below.refl _ _⟩
    case round =>
      obtain ⟨k, hk, rfl, ho, hu, hb⟩ := hrel
      by_cases hlt : k < 12
      · obtain ⟨b1, o1, e, rfl, hb1, he, hmem, k1, k2, k3, hs⟩ := (HH.out.below hb (Nat.le_refl _)).at_ (k := k) (by omega)
        have HT := Lib.hid (take_snoc he)
        have ht : decide ((k : Int) < (12 : Int)) = true := by simp; omega
        have i1 : (0 : Int) ≤ (k : Int) := by omega
        have i2 : (k : Int) < (12 : Int) := by omega
        have hsz := hb.size
        have hgl : (good (es.take k)).length ≤ 12 := by have := good_len (es.take k); rw [List.length_take] at this; omega
        have hfl := flatM_len (good_right (es.take k))
        have HO := Lib.hid ho
        have HU := Lib.hid hu
        have HB := Lib.hid hb
        clear ho hu hb he hmem
        by_cases hR : Right e.x
        · have HG := Lib.hid (good_yes (es.take k) hR)
          have hr2 := hR.2
          have hpl := packN_length e.x
          have HPK := Lib.hid (Pack_yes e.x e.ap e.cp (wr.alloc (.cells (frC e.x e.ap e.cp) 25)) ((hs.alloc hsz _).more (by simp; omega)) hR)
          obtain ⟨⟨tx, un, p⟩, ap, cp⟩ := e
          simp only at k1 k2 k3 HPK hr2 hpl
          clear hs hR
          go_wp2_with fail
          refine HPK.out.mono ?_
          rintro en w1 ⟨ac, cc, rfl, hsc, hbw, hxc⟩
          rw [hpl] at hsc ⊢
          have HROW : Hid (w1.heap[wr.heap.size]? = some (.cells (frC ⟨tx, un, p⟩ ap cp) 25 (0, 0))) := Lib.hid ((hbw.block _ (by simp)).trans (heap_alloc_new wr _))
          have hc0 := cell_of_row _ _ 0 _ _ _ HROW.out
          have hc1 := cell_of_row _ _ 1 _ _ _ HROW.out
          have hc2 := cell_of_row _ _ 2 _ _ _ HROW.out
          have HO1 := Lib.hid (own_below (HO.out.alloc (.cells (frC ⟨tx, un, p⟩ ap cp) 25)) hbw)
          have HU1 := Lib.hid (own_below (HU.out.alloc (.cells (frC ⟨tx, un, p⟩ ap cp) 25)) hbw)
          have HB1 := Lib.hid ((HB.out.alloc hsz (.cells (frC ⟨tx, un, p⟩ ap cp) 25)).trans (hbw.mono (by simp; omega)))
          have HSC := Lib.hid hsc
          have HXC := Lib.hid hxc
          have HLT := Lib.hid HO.out.lt
          have hy1 := hbw.size
          simp only [World.size_alloc] at hy1
          clear hsc hxc hbw HPK HO HU HB k1 k2 k3
          go_wp2_with (first
            | (at_builtin; (refine wpList_append_valsN rfl (.tmp 27) (.tmp 29) 35 rfl w.heap.size 25 iF (.agg zeroF) 3 32 Try.underlying35 hF hF0 hF1 hF2' rfl (by decide) u4 (good (es.take k)).length (rowM (good (es.take k))) rfl (HO1.out.alloc (.cells #[.int .u16 (tx.toNat : Int), b8 un, .slice ap p.length cp] 25)) ⟨w1.heap.size, 0, none⟩ 1 1 (fmC ⟨⟨tx, un, p⟩, ap, cp⟩) rfl rfl (new_cells w1 #[.int .u16 (tx.toNat : Int), b8 un, .slice ap p.length cp] _) (fun y hy => by simp at hy; rcases hy with rfl | rfl | rfl <;> rfl) (by unfold maxLen; omega) (by omega) (by simp; omega) ?_; intro v5 w5 hown5 hg5; have HO5 := Lib.hid hown5; have HU5 := Lib.hid ((HU1.out.alloc (.cells #[.int .u16 (tx.toNat : Int), b8 un, .slice ap p.length cp] 25)).kept hg5.grown (own_ne (HO1.out.alloc (.cells #[.int .u16 (tx.toNat : Int), b8 un, .slice ap p.length cp] 25)) (HU1.out.alloc (.cells #[.int .u16 (tx.toNat : Int), b8 un, .slice ap p.length cp] 25)) (by decide))); have HS5 := Lib.hid ((HSC.out.alloc (Nat.le_refl _) (.cells #[.int .u16 (tx.toNat : Int), b8 un, .slice ap p.length cp] 25)).grew hg5 (fun y hy e => by have h1 := HXC.out y hy; have h2 := (HLT.out _ e).2; simp at h1; omega)); have HB5 := Lib.hid (Grew.below (HB1.out.alloc (by omega) (.cells #[.int .u16 (tx.toNat : Int), b8 un, .slice ap p.length cp] 25)) hg5 (by simp; omega) (fun k hk => (HO1.out.lt k hk).1)); have hy5 := hg5.size; clear hown5 hg5))
            | (at_builtin; go_loud (refine wpList_append_list (f := b8) b8_one rfl (.tmp 31) (.tmp 32) 23 rfl w.heap.size 5 i0 (.int .u8 0) 1 Try.underlying23 hi hz0 hz1 hz2' rfl u5 (flatM (good (es.take k))).length ((flatM (good (es.take k))).map b8) rfl HU5.out ac (7 + p.length) cc rfl HS5.out (by unfold maxLen; omega) (by omega) (by simp at hy5; omega) ?_; intro v6 w6 hown6 hg6; have HU6 := Lib.hid hown6; have HO6 := Lib.hid (HO5.out.kept hg6.grown (own_ne HU5.out HO5.out (by decide))); have HB6 := Lib.hid (Grew.below HB5.out hg6 (by simp at hy5; omega) (fun k hk => (HU5.out.lt k hk).1)); clear hown6 hg6)))
          go_roundw
          case rel =>
            refine ⟨k + 1, by omega, by go_num, ?_, ?_, HB6.out⟩
            · have h := HO6.out
              rw [HT.out, HG.out, rowM_snoc, List.length_append]
              exact h
            · have h := HU6.out
              rw [HT.out, HG.out, flatM_snoc, List.length_append, hpl, List.map_append]
              exact h
          case measure => simp [intOf]; omega
        · have HG := Lib.hid (good_no (es.take k) hR)
          have HPK := Lib.hid (Pack_no e.x e.ap e.cp (wr.alloc (.cells (frC e.x e.ap e.cp) 25)) ((hs.alloc hsz _).more (by simp; omega)) hR)
          obtain ⟨⟨tx, un, p⟩, ap, cp⟩ := e
          simp only at k1 k2 k3 HPK
          clear hs hR
          go_wp2_with fail
          refine HPK.out.mono ?_
          rintro en w1 ⟨rfl, hbw⟩
          have HO1 := Lib.hid (own_below (HO.out.alloc (.cells (frC ⟨tx, un, p⟩ ap cp) 25)) hbw)
          have HU1 := Lib.hid (own_below (HU.out.alloc (.cells (frC ⟨tx, un, p⟩ ap cp) 25)) hbw)
          have HB1 := Lib.hid ((HB.out.alloc hsz (.cells (frC ⟨tx, un, p⟩ ap cp) 25)).trans (hbw.mono (by simp; omega)))
          clear hbw HPK HO HU HB k1 k2 k3
          go_wp2_with fail
          go_roundw
          case rel => exact ⟨k + 1, by omega, by go_num, by rw [HT.out, HG.out]; exact HO1.out, by rw [HT.out, HG.out]; exact HU1.out, HB1.out⟩
          case measure => simp [intOf]; omega
      · obtain rfl : k = 12 := by omega
        have ht : decide ((12 : Int) < (12 : Int)) = false := by simp
        have HO := Lib.hid ho
        have HU := Lib.hid hu
        clear ho hu
        go_wp2_with fail
        go_ret2
        exact ⟨_, _, rfl, HO.out, HU.out, hb⟩
  · have h12i : (n : Int) ≤ 12 := by omega
    have HTK := Lib.hid (show es.take 12 = es.take n by rw [List.take_of_length_le (by omega), List.take_of_length_le (by omega)])
    rw [HTK.out]
    go_enter Try.func17, Try.ntmps17
    go_wp2_with fail
    go_loopw [4, 5, 16] (fun v u i wr => ∃ k : Nat, k ≤ n ∧ i = .int .i64 (k : Int) ∧ wr.ownsRow w.heap.size 25 3 v (good (es.take k)).length (rowM (good (es.take k))) ∧ wr.ownsRow w.heap.size 5 1 u (flatM (good (es.take k))).length ((flatM (good (es.take k))).map b8) ∧ Below w.heap.size w wr) (fun _ _ i _ => n - (intOf i).toNat)
    case atStart => exact ⟨0, by omega, rfl, World.ownsRow_nil _ _ _ _, World.ownsRow_nil _ _ _ _, Below.refl _ _⟩
    case round =>
      obtain ⟨k, hk, rfl, ho, hu, hb⟩ := hrel
      by_cases hlt : k < n
      · obtain ⟨b1, o1, e, rfl, hb1, he, hmem, k1, k2, k3, hs⟩ := (HH.out.below hb (Nat.le_refl _)).at_ (k := k) (by omega)
        have HT := Lib.hid (take_snoc he)
        have ht : decide ((k : Int) < (n : Int)) = true := by simp; omega
        have i1 : (0 : Int) ≤ (k : Int) := by omega
        have i2 : (k : Int) < (n : Int) := by omega
        have hsz := hb.size
        have hgl : (good (es.take k)).length ≤ 12 := by have := good_len (es.take k); rw [List.length_take] at this; omega
        have hfl := flatM_len (good_right (es.take k))
        have HO := Lib.hid ho
        have HU := Lib.hid hu
        have HB := Lib.hid hb
        clear ho hu hb he hmem
        by_cases hR : Right e.x
        · have HG := Lib.hid (good_yes (es.take k) hR)
          have hr2 := hR.2
          have hpl := packN_length e.x
          have HPK := Lib.hid (Pack_yes e.x e.ap e.cp (wr.alloc (.cells (frC e.x e.ap e.cp) 25)) ((hs.alloc hsz _).more (by simp; omega)) hR)
          obtain ⟨⟨tx, un, p⟩, ap, cp⟩ := e
          simp only at k1 k2 k3 HPK hr2 hpl
          clear hs hR
          go_wp2_with fail
          refine HPK.out.mono ?_
          rintro en w1 ⟨ac, cc, rfl, hsc, hbw, hxc⟩
          rw [hpl] at hsc ⊢
          have HROW : Hid (w1.heap[wr.heap.size]? = some (.cells (frC ⟨tx, un, p⟩ ap cp) 25 (0, 0))) := Lib.hid ((hbw.block _ (by simp)).trans (heap_alloc_new wr _))
          have hc0 := cell_of_row _ _ 0 _ _ _ HROW.out
          have hc1 := cell_of_row _ _ 1 _ _ _ HROW.out
          have hc2 := cell_of_row _ _ 2 _ _ _ HROW.out
          have HO1 := Lib.hid (own_below (HO.out.alloc (.cells (frC ⟨tx, un, p⟩ ap cp) 25)) hbw)
          have HU1 := Lib.hid (own_below (HU.out.alloc (.cells (frC ⟨tx, un, p⟩ ap cp) 25)) hbw)
          have HB1 := Lib.hid ((HB.out.alloc hsz (.cells (frC ⟨tx, un, p⟩ ap cp) 25)).trans (hbw.mono (by simp; omega)))
          have HSC := Lib.hid hsc
          have HXC := Lib.hid hxc
          have HLT := Lib.hid HO.out.lt
          have hy1 := hbw.size
          simp only [World.size_alloc] at hy1
          clear hsc hxc hbw HPK HO HU HB k1 k2 k3
          go_wp2_with (first
            | (at_builtin; (refine wpList_append_valsN rfl (.tmp 27) (.tmp 29) 35 rfl w.heap.size 25 iF (.agg zeroF) 3 32 Try.underlying35 hF hF0 hF1 hF2' rfl (by decide) u4 (good (es.take k)).length (rowM (good (es.take k))) rfl (HO1.out.alloc (.cells #[.int .u16 (tx.toNat : Int), b8 un, .slice ap p.length cp] 25)) ⟨w1.heap.size, 0, none⟩ 1 1 (fmC ⟨⟨tx, un, p⟩, ap, cp⟩) rfl rfl (new_cells w1 #[.int .u16 (tx.toNat : Int), b8 un, .slice ap p.length cp] _) (fun y hy => by simp at hy; rcases hy with rfl | rfl | rfl <;> rfl) (by unfold maxLen; omega) (by omega) (by simp; omega) ?_; intro v5 w5 hown5 hg5; have HO5 := Lib.hid hown5; have HU5 := Lib.hid ((HU1.out.alloc (.cells #[.int .u16 (tx.toNat : Int), b8 un, .slice ap p.length cp] 25)).kept hg5.grown (own_ne (HO1.out.alloc (.cells #[.int .u16 (tx.toNat : Int), b8 un, .slice ap p.length cp] 25)) (HU1.out.alloc (.cells #[.int .u16 (tx.toNat : Int), b8 un, .slice ap p.length cp] 25)) (by decide))); have HS5 := Lib.hid ((HSC.out.alloc (Nat.le_refl _) (.cells #[.int .u16 (tx.toNat : Int), b8 un, .slice ap p.length cp] 25)).grew hg5 (fun y hy e => by have h1 := HXC.out y hy; have h2 := (HLT.out _ e).2; simp at h1; omega)); have HB5 := Lib.hid (Grew.below (HB1.out.alloc (by omega) (.cells #[.int .u16 (tx.toNat : Int), b8 un, .slice ap p.length cp] 25)) hg5 (by simp; omega) (fun k hk => (HO1.out.lt k hk).1)); have hy5 := hg5.size; clear hown5 hg5))
            | (at_builtin; go_loud (refine wpList_append_list (f := b8) b8_one rfl (.tmp 31) (.tmp 32) 23 rfl w.heap.size 5 i0 (.int .u8 0) 1 Try.underlying23 hi hz0 hz1 hz2' rfl u5 (flatM (good (es.take k))).length ((flatM (good (es.take k))).map b8) rfl HU5.out ac (7 + p.length) cc rfl HS5.out (by unfold maxLen; omega) (by omega) (by simp at hy5; omega) ?_; intro v6 w6 hown6 hg6; have HU6 := Lib.hid hown6; have HO6 := Lib.hid (HO5.out.kept hg6.grown (own_ne HU5.out HO5.out (by decide))); have HB6 := Lib.hid (Grew.below HB5.out hg6 (by simp at hy5; omega) (fun k hk => (HU5.out.lt k hk).1)); clear hown6 hg6)))
          go_roundw
          case rel =>
            refine ⟨k + 1, by omega, by go_num, ?_, ?_, HB6.out⟩
            · have h := HO6.out
              rw [HT.out, HG.out, rowM_snoc, List.length_append]
              exact h
            · have h := HU6.out
              rw [HT.out, HG.out, flatM_snoc, List.length_append, hpl, List.map_append]
              exact h
          case measure => simp [intOf]; omega
        · have HG := Lib.hid (good_no (es.take k) hR)
          have HPK := Lib.hid (Pack_no e.x e.ap e.cp (wr.alloc (.cells (frC e.x e.ap e.cp) 25)) ((hs.alloc hsz _).more (by simp; omega)) hR)
          obtain ⟨⟨tx, un, p⟩, ap, cp⟩ := e
          simp only at k1 k2 k3 HPK
          clear hs hR
          go_wp2_with fail
          refine HPK.out.mono ?_
          rintro en w1 ⟨rfl, hbw⟩
          have HO1 := Lib.hid (own_below (HO.out.alloc (.cells (frC ⟨tx, un, p⟩ ap cp) 25)) hbw)
          have HU1 := Lib.hid (own_below (HU.out.alloc (.cells (frC ⟨tx, un, p⟩ ap cp) 25)) hbw)
          have HB1 := Lib.hid ((HB.out.alloc hsz (.cells (frC ⟨tx, un, p⟩ ap cp) 25)).trans (hbw.mono (by simp; omega)))
          clear hbw HPK HO HU HB k1 k2 k3
          go_wp2_with fail
          go_roundw
          case rel => exact ⟨k + 1, by omega, by go_num, by rw [HT.out, HG.out]; exact HO1.out, by rw [HT.out, HG.out]; exact HU1.out, HB1.out⟩
          case measure => simp [intOf]; omega
      · obtain rfl : k = n := by omega
        have ht : decide ((k : Int) < (k : Int)) = false := by simp
        have HO := Lib.hid ho
        have HU := Lib.hid hu
        clear ho hu
        go_wp2_with fail
        go_ret2
        exact ⟨_, _, rfl, HO.out, HU.out, hb⟩
end Go.Proofs.Yteekdginloljjaa.MbW
