/- What the laws say of the chapter's own examples. -/
import Derived.Test.YteekdginloljjaaMbSame
open Go.RowKit
namespace Go.Proofs.Yteekdginloljjaa.MbW
open MbM Mem

theorem rowC_at {xs : List It} {i : Nat} {it : It} (h : xs[i]? = some it) : (rowC xs)[i * 3]? = some (.int .u16 (it.x.tx.toNat : Int)) ∧ (rowC xs)[i * 3 + 1]? = some (b8 it.x.unit) ∧ (rowC xs)[i * 3 + 2]? = some (.slice it.ap it.x.pdu.length it.cp) := by
  induction xs generalizing i with
  | nil => simp at h
  | cons y xs ih =>
    have e : rowC (y :: xs) = itC y ++ rowC xs := rfl
    cases i with
    | zero =>
      simp at h; subst h
      rw [e]; exact ⟨rfl, rfl, rfl⟩
    | succ i =>
      have h' := ih (i := i) (by simpa using h)
      rw [e]
      have k : ∀ j, (itC y ++ rowC xs)[(i + 1) * 3 + j]? = (rowC xs)[i * 3 + j]? := fun j => by
        rw [List.getElem?_append_right (by simp; omega)]
        congr 1; simp; omega
      exact ⟨(k 0).trans h'.1, (k 1).trans h'.2.1, (k 2).trans h'.2.2⟩
theorem FrsAt.of_own {w : World} {base n : Nat} {v : Value} {xs : List It} (h : w.ownsRow base 25 3 v n (rowC xs)) (hn : xs.length = n) (hp : ∀ it ∈ xs, Sl b8 w w.heap.size it.ap it.x.pdu.length it.cp it.x.pdu) :
    ∃ a c, v = .slice a n c ∧ FrsAt w w.heap.size a n c (xs.map It.fm) := by
  have hcells := @World.ownsRow.cells _ _ _ _ _ _ _ h
  have hlt := h.lt
  have hP : ∀ e ∈ xs.map It.fm, Sl b8 w w.heap.size e.ap e.x.pdu.length e.cp e.x.pdu := fun e he => by
    obtain ⟨it, hit, rfl⟩ := List.mem_map.1 he
    exact hp it hit
  rcases h.2 with ⟨rfl, h0⟩ | ⟨g, cap, cur, rfl, hb, hh, hnc, hm, hs, ht⟩
  · subst h0
    exact ⟨none, 0, rfl, by simpa using hn, Nat.le_refl _, by unfold maxLen; omega, fun h => absurd h (by omega), hP⟩
  · refine ⟨_, cap, rfl, by simpa using hn, hnc, hm, fun _ => ⟨g, 0, rfl, (hlt g rfl).2, fun i e he => ?_⟩, hP⟩
    rw [List.getElem?_map] at he
    obtain ⟨it, hit, rfl⟩ := Option.map_eq_some_iff.1 he
    obtain ⟨k1, k2, k3⟩ := rowC_at hit
    have ha : ∀ i, (⟨g, 0, none⟩ : Addr).add i = ⟨g, 0 + i, none⟩ := fun i => by by_cases h0 : i = 0 <;> simp [Addr.add, h0]
    have g1 := hcells (g := g) rfl _ _ k1
    have g2 := hcells (g := g) rfl _ _ k2
    have g3 := hcells (g := g) rfl _ _ k3
    rw [ha] at g1 g2 g3
    rw [← Nat.add_assoc] at g2 g3
    exact ⟨g1, g2, g3⟩
theorem FrsAt.new {w : World} {x : Fr} {a : Option Addr} {c : Nat} (hp : Sl b8 w w.heap.size a x.pdu.length c x.pdu) :
    FrsAt (w.alloc (.cells (frC x a c) 25)) (w.alloc (.cells (frC x a c) 25)).heap.size (some ⟨w.heap.size, 0, none⟩) 1 1 [⟨x, a, c⟩] := by
  refine ⟨rfl, Nat.le_refl _, by unfold maxLen; omega, fun _ => ⟨w.heap.size, 0, rfl, by simp, fun i e he => ?_⟩, fun e he => ?_⟩
  · cases i with
    | zero =>
      simp at he; subst he
      exact ⟨cell_of_row _ _ 0 _ _ _ (heap_alloc_new w _), cell_of_row _ _ 1 _ _ _ (heap_alloc_new w _), cell_of_row _ _ 2 _ _ _ (heap_alloc_new w _)⟩
    | succ i => simp at he
  · simp at he; subst he
    exact (hp.alloc (Nat.le_refl _) _).more (by simp)
/-- Frames, how many bytes they have, and an error's number. -/
def CutIs (l : List Fr) (k e : Int) (w : World) (en : Ending) (w' : World) : Prop :=
  ∃ a c es, en = .returned (.tuple #[.slice a l.length c, .int .i64 k, .int .i64 e]) ∧ es.map Fm.x = l ∧ FrsAt w' w'.heap.size a l.length c es ∧ Below w.heap.size w w'
theorem Cut_at {a : Option Addr} {nb c : Nat} {b : List UInt8} {w : World} (hl : Sl b8 w w.heap.size a nb c b) (hm : nb ≤ 1000000) {l : List Fr} {s : List UInt8} (hc : Cuts b l s) {k e : Int} (hk : (b.length : Int) - (s.length : Int) = k) (he : (if begunB s = true then (0 : Int) else 10) = e) :
    Calls Try.prog 14 #[.slice a nb c] w (CutIs l k e w) := by
  refine (Cut_any a nb c b w hl hm).mono ?_
  rintro en w' ⟨xs, s', v, h1, rfl, ho, hp, hb⟩
  obtain ⟨e1, e2⟩ := cuts_det h1 hc
  subst e2
  have hn : xs.length = l.length := by rw [← e1, List.length_map]
  obtain ⟨a', c', rfl, hF⟩ := FrsAt.of_own ho rfl (fun it hit => (hp it hit).1)
  rw [hn] at hF ⊢
  exact ⟨a', c', xs.map It.fm, by rw [hk, he], by rw [← e1, List.map_map]; rfl, hF, hb⟩

abbrev xEx : Fr := ⟨258, 7, [3, 0, 1, 0, 2]⟩
abbrev bEx : List UInt8 := [1, 2, 0, 0, 0, 6, 7, 3, 0, 1, 0, 2]
theorem pack_ex : packN xEx = bEx := by decide
/-- What awake's own variables hold, all along. -/
structure Ex (w : World) (a : Option Addr) (c : Nat) (W : World) : Prop where
  bytes : Sl b8 W W.heap.size a 12 c bEx
  row : W.heap[w.heap.size + 1]? = some (.cells #[.int .u16 258, .int .u8 7, .slice (some ⟨w.heap.size, 0, none⟩) 5 5] 25 (0, 0))
  pdu : Sl b8 W W.heap.size (some ⟨w.heap.size, 0, none⟩) 5 5 [3, 0, 1, 0, 2]
  below : Below w.heap.size w W
theorem Ex.lt {w : World} {a : Option Addr} {c : Nat} {W : World} (h : Ex w a c W) : w.heap.size + 1 < W.heap.size := (Array.getElem?_eq_some_iff.1 h.row).1
theorem Ex.on {w : World} {a : Option Addr} {c : Nat} {W W' : World} (h : Ex w a c W) (hb : Below W.heap.size W W') : Ex w a c W' :=
  ⟨(h.bytes.below hb (Nat.le_refl _)).more hb.size, (hb.block _ h.lt).trans h.row, (h.pdu.below hb (Nat.le_refl _)).more hb.size, h.below.trans (hb.mono (by have := h.lt; omega))⟩
theorem Ex.alloc {w : World} {a : Option Addr} {c : Nat} {W : World} (h : Ex w a c W) (o : Obj) : Ex w a c (W.alloc o) := h.on ((Below.refl _ _).alloc (Nat.le_refl _) o)
theorem Ex.drewN {w : World} {a : Option Addr} {c : Nat} {W : World} (h : Ex w a c W) (q : Nat) : Ex w a c (W.drewN q) := h.on (below_drawn (Below.refl _ _) q)
theorem right_ex : Right xEx := by decide
theorem cuts_ex {t : List UInt8} (h : first t = none) : Cuts (bEx ++ t) [xEx] t := by
  rw [← pack_ex]
  exact .more (first_pack right_ex t) (.done h)
set_option maxRecDepth 100000 in
set_option maxHeartbeats 2000000 in
theorem awake_any (w : World) : Calls Try.prog 7 #[] w (Says (.bool true) w) := by
  obtain ⟨i0, hi, hz0, hz1, hz2⟩ := info_parts info8
  have hz2' : i0.bytes = 1 := hz2
  go_enter Try.func7, Try.ntmps7
  go_wp2_with fail
  have hs0 := ((Sl.new (f := b8) w #[.int .u8 3, .int .u8 0, .int .u8 1, .int .u8 0, .int .u8 2] 5 (0, 0) ([3, 0, 1, 0, 2] : List UInt8) 5 rfl rfl (by omega)).alloc (Nat.le_refl _) (.cells #[.int .u16 258, .int .u8 7, .slice (some ⟨w.heap.size, 0, none⟩) 5 5] 25)).more (show _ ≤ ((w.alloc (.cells #[.int .u8 3, .int .u8 0, .int .u8 1, .int .u8 0, .int .u8 2] 5)).alloc (.cells #[.int .u16 258, .int .u8 7, .slice (some ⟨w.heap.size, 0, none⟩) 5 5] 25)).heap.size by simp)
  have hr0 : ((w.alloc (.cells #[.int .u8 3, .int .u8 0, .int .u8 1, .int .u8 0, .int .u8 2] 5)).alloc (.cells #[.int .u16 258, .int .u8 7, .slice (some ⟨w.heap.size, 0, none⟩) 5 5] 25)).heap[w.heap.size + 1]? = some (.cells #[.int .u16 258, .int .u8 7, .slice (some ⟨w.heap.size, 0, none⟩) 5 5] 25 (0, 0)) := by
    have h := heap_alloc_new (w.alloc (.cells #[.int .u8 3, .int .u8 0, .int .u8 1, .int .u8 0, .int .u8 2] 5)) (.cells #[.int .u16 258, .int .u8 7, .slice (some ⟨w.heap.size, 0, none⟩) 5 5] 25)
    rwa [World.size_alloc] at h
  have hb0 : Below w.heap.size w ((w.alloc (.cells #[.int .u8 3, .int .u8 0, .int .u8 1, .int .u8 0, .int .u8 2] 5)).alloc (.cells #[.int .u16 258, .int .u8 7, .slice (some ⟨w.heap.size, 0, none⟩) 5 5] 25)) := ((Below.refl _ w).alloc (Nat.le_refl _) _).alloc (by simp) _
  have hz : w.heap.size + 1 < ((w.alloc (.cells #[.int .u8 3, .int .u8 0, .int .u8 1, .int .u8 0, .int .u8 2] 5)).alloc (.cells #[.int .u16 258, .int .u8 7, .slice (some ⟨w.heap.size, 0, none⟩) 5 5] 25)).heap.size := by simp
  generalize (w.alloc (.cells #[.int .u8 3, .int .u8 0, .int .u8 1, .int .u8 0, .int .u8 2] 5)).alloc (.cells #[.int .u16 258, .int .u8 7, .slice (some ⟨w.heap.size, 0, none⟩) 5 5] 25) = w1 at *
  have HPK := Pack_yes xEx (some ⟨w.heap.size, 0, none⟩) 5 w1 hs0 right_ex
  rw [pack_ex] at HPK
  refine HPK.mono ?_
  rintro e w2 ⟨a2, c2, rfl, hs2, hb2, hx2⟩
  rw [show bEx.length = 12 from rfl] at hs2 ⊢
  have K2 := Lib.hid (show Ex w a2 c2 w2 from ⟨hs2, (hb2.block _ hz).trans hr0, (hs0.below hb2 (Nat.le_refl _)).more hb2.size, hb0.trans (hb2.mono hb0.size)⟩)
  clear HPK hs0 hr0 hb0 hb2 hx2 hz
  have HT := Lib.hid (Same_any a2 (some ⟨w2.heap.size, 0, none⟩) 12 c2 12 12 bEx bEx _ _ _ ((hs2.alloc (Nat.le_refl _) (.cells #[.int .u8 1, .int .u8 2, .int .u8 0, .int .u8 0, .int .u8 0, .int .u8 6, .int .u8 7, .int .u8 3, .int .u8 0, .int .u8 1, .int .u8 0, .int .u8 2] 5))) (Sl.new (f := b8) w2 #[.int .u8 1, .int .u8 2, .int .u8 0, .int .u8 0, .int .u8 0, .int .u8 6, .int .u8 7, .int .u8 3, .int .u8 0, .int .u8 1, .int .u8 0, .int .u8 2] 5 (0, 0) bEx 12 rfl rfl (by omega)))
  rw [decide_eq_true rfl] at HT
  go_wp2_with fail
  refine HT.out.mono ?_
  rintro e w3 ⟨rfl, q, rfl⟩
  have K3 := Lib.hid ((K2.out.alloc (.cells #[.int .u8 1, .int .u8 2, .int .u8 0, .int .u8 0, .int .u8 0, .int .u8 6, .int .u8 7, .int .u8 3, .int .u8 0, .int .u8 1, .int .u8 0, .int .u8 2] 5)).drewN q)
  clear HT K2 hs2
  generalize (w2.alloc (.cells #[.int .u8 1, .int .u8 2, .int .u8 0, .int .u8 0, .int .u8 0, .int .u8 6, .int .u8 7, .int .u8 3, .int .u8 0, .int .u8 1, .int .u8 0, .int .u8 2] 5)).drewN q = w3 at *
  go_wp2_with (first
    | (at_builtin; refine wpList_append_sl (f := b8) b8_one rfl (.tmp 28) (.tmp 29) 23 rfl w3.heap.size 5 i0 (.int .u8 0) 1 Try.underlying23 hi hz0 hz1 hz2' rfl (.slice (some ⟨w3.heap.size, 0, none⟩) 0 0) 0 [] rfl (World.ownsRow_made w3 #[] 0 (Nat.le_refl _) (by unfold maxLen; omega) rfl) a2 12 c2 rfl (K3.out.alloc _).bytes (by unfold maxLen; omega) (by omega) (by simp) ?_; intro va3 wa3 howna3 hga3; simp only [Nat.zero_add, List.nil_append] at howna3; have HA3 := Lib.hid (((Below.refl w3.heap.size w3).alloc (Nat.le_refl _) (.cells #[] 5)).grown hga3 (by simp) (by simp [Value.ownBlock])); have HO3 := Lib.hid howna3; have hza3 := HA3.out.size; clear howna3 hga3)
    | (at_builtin; refine wpList_append_new rfl (.tmp 30) (.tmp 31) 23 rfl w3.heap.size 5 i0 (.int .u8 0) 1 Try.underlying23 hi hz0 hz1 hz2' rfl va3 12 _ rfl (HO3.out.alloc _) ⟨wa3.heap.size, 0, none⟩ 1 1 (([9] : List UInt8).map b8) rfl rfl (new_cells wa3 (([9] : List UInt8).map b8).toArray _) (fun u hu => by obtain ⟨y, _, rfl⟩ := List.mem_map.1 hu; rfl) (by unfold maxLen; omega) (by omega) (by simp; omega) ?_; intro vb3 wb3 hownb3 hgb3; have HB3 := Lib.hid ((HA3.out.alloc hza3 (.cells (([9] : List UInt8).map b8).toArray 5)).grown hgb3 (by simp; omega) (fun k hk => (HO3.out.lt k hk).1)); obtain ⟨ab3, cb3, rfl, hsb3⟩ := Sl.of_own (l := bEx ++ [9]) (f := b8) (by simpa using hownb3); have KB3 := Lib.hid (K3.out.on HB3.out); clear hownb3 hgb3))
  refine (Cut_at (l := [xEx]) (s := [9]) (k := 12) (e := 0) hsb3 (by omega) (cuts_ex (by decide)) (by decide) (by decide)).mono ?_
  rintro e w4 ⟨al, cl, es, rfl, hes, hF, hb4⟩
  rw [show [xEx].length = 1 from rfl] at hF ⊢
  have K4 := Lib.hid (KB3.out.on hb4)
  have HES := Lib.hid hes
  have HF4 := Lib.hid hF
  clear hsb3 KB3 HB3 HO3 HA3 hza3 K3 hes hF hb4
  go_wp2_with (first
    | (at_builtin; refine wpList_append_sl (f := b8) b8_one rfl (.tmp 38) (.tmp 39) 23 rfl w4.heap.size 5 i0 (.int .u8 0) 1 Try.underlying23 hi hz0 hz1 hz2' rfl (.slice (some ⟨w4.heap.size, 0, none⟩) 0 0) 0 [] rfl (World.ownsRow_made w4 #[] 0 (Nat.le_refl _) (by unfold maxLen; omega) rfl) a2 12 c2 rfl (K4.out.alloc _).bytes (by unfold maxLen; omega) (by omega) (by simp) ?_; intro va4 wa4 howna4 hga4; simp only [Nat.zero_add, List.nil_append] at howna4; have HA4 := Lib.hid (((Below.refl w4.heap.size w4).alloc (Nat.le_refl _) (.cells #[] 5)).grown hga4 (by simp) (by simp [Value.ownBlock])); have HO4 := Lib.hid howna4; have hza4 := HA4.out.size; clear howna4 hga4)
    | (at_builtin; refine wpList_append_new rfl (.tmp 40) (.tmp 41) 23 rfl w4.heap.size 5 i0 (.int .u8 0) 1 Try.underlying23 hi hz0 hz1 hz2' rfl va4 12 _ rfl (HO4.out.alloc _) ⟨wa4.heap.size, 0, none⟩ 3 3 (([9, 9, 1] : List UInt8).map b8) rfl rfl (new_cells wa4 (([9, 9, 1] : List UInt8).map b8).toArray _) (fun u hu => by obtain ⟨y, _, rfl⟩ := List.mem_map.1 hu; rfl) (by unfold maxLen; omega) (by omega) (by simp; omega) ?_; intro vb4 wb4 hownb4 hgb4; have HB4 := Lib.hid ((HA4.out.alloc hza4 (.cells (([9, 9, 1] : List UInt8).map b8).toArray 5)).grown hgb4 (by simp; omega) (fun k hk => (HO4.out.lt k hk).1)); obtain ⟨ab4, cb4, rfl, hsb4⟩ := Sl.of_own (l := bEx ++ [9, 9, 1]) (f := b8) (by simpa using hownb4); have KB4 := Lib.hid (K4.out.on HB4.out); clear hownb4 hgb4))
  refine (Cut_at (l := [xEx]) (s := [9, 9, 1]) (k := 12) (e := 10) hsb4 (by omega) (cuts_ex (by decide)) (by decide) (by decide)).mono ?_
  rintro e w5 ⟨al2, cl2, es2, rfl, -, -, hb5⟩
  rw [show [xEx].length = 1 from rfl]
  have K5 := Lib.hid (KB4.out.on hb5)
  have HF5 := Lib.hid (((HF4.out.below HB4.out (Nat.le_refl _)).more HB4.out.size).below hb5 (Nat.le_refl _))
  have hz45 := hb5.size
  have hz44 := HB4.out.size
  clear hsb4 KB4 HB4 HO4 HA4 hza4 K4 HF4 hb5
  have HPN := Lib.hid (Parse_no (some ⟨w5.heap.size, 0, none⟩) 7 7 [0, 0, 0, 0, 0, 1, 7] (w5.alloc (.cells #[.int .u8 0, .int .u8 0, .int .u8 0, .int .u8 0, .int .u8 0, .int .u8 1, .int .u8 7] 5)) (Sl.new (f := b8) w5 #[.int .u8 0, .int .u8 0, .int .u8 0, .int .u8 0, .int .u8 0, .int .u8 1, .int .u8 7] 5 (0, 0) [0, 0, 0, 0, 0, 1, 7] 7 rfl rfl (by omega)) (by decide))
  go_wp2_with fail
  refine HPN.out.mono ?_
  rintro e w6 ⟨rfl, hb6⟩
  have K6 := Lib.hid ((K5.out.alloc (.cells #[.int .u8 0, .int .u8 0, .int .u8 0, .int .u8 0, .int .u8 0, .int .u8 1, .int .u8 7] 5)).on hb6)
  have HF6 := Lib.hid ((HF5.out.more hz45).below (((Below.refl w5.heap.size w5).alloc (Nat.le_refl _) (.cells #[.int .u8 0, .int .u8 0, .int .u8 0, .int .u8 0, .int .u8 0, .int .u8 1, .int .u8 7] 5)).trans (hb6.mono (by simp))) (Nat.le_refl _))
  clear HPN K5 HF5
  have hc0 : (w6.alloc (.cells #[.int .u16 0, .int .u8 0, .slice none 0 0] 25)).cell? ⟨w.heap.size + 1, 0, none⟩ = some (.int .u16 258) := cell_of_row _ _ 0 _ _ _ (K6.out.alloc _).row
  have hc1 : (w6.alloc (.cells #[.int .u16 0, .int .u8 0, .slice none 0 0] 25)).cell? ⟨w.heap.size + 1, 1, none⟩ = some (.int .u8 7) := cell_of_row _ _ 1 _ _ _ (K6.out.alloc _).row
  have hc2 : (w6.alloc (.cells #[.int .u16 0, .int .u8 0, .slice none 0 0] 25)).cell? ⟨w.heap.size + 1, 2, none⟩ = some (.slice (some ⟨w.heap.size, 0, none⟩) 5 5) := cell_of_row _ _ 2 _ _ _ (K6.out.alloc _).row
  have hz6 := hb6.size
  simp only [World.size_alloc] at hz6
  have HSY := Lib.hid (same_yes al (some ⟨(w6.alloc (.cells #[.int .u16 0, .int .u8 0, .slice none 0 0] 25)).heap.size, 0, none⟩) 1 cl 1 1 es [⟨xEx, some ⟨w.heap.size, 0, none⟩, 5⟩] w5.heap.size _ ((w6.alloc (.cells #[.int .u16 0, .int .u8 0, .slice none 0 0] 25)).alloc (.cells (frC xEx (some ⟨w.heap.size, 0, none⟩) 5) 25))
    (HF6.out.below (((Below.refl w5.heap.size w6).alloc (by omega) _).alloc (by simp; omega) _) (Nat.le_refl _)) (FrsAt.new (K6.out.alloc _).pdu) HES.out)
  have HBW := Lib.hid (((K6.out.alloc (.cells #[.int .u16 0, .int .u8 0, .slice none 0 0] 25)).alloc (.cells (frC xEx (some ⟨w.heap.size, 0, none⟩) 5) 25)).below)
  rw [World.size_alloc] at HSY
  clear hb6 K6 HF6
  go_wp2_with fail
  refine HSY.out.mono ?_
  rintro e w7 ⟨rfl, q7, rfl⟩
  go_wp2_with fail
  go_ret
  exact ⟨ret_bool rfl, below_drawn HBW.out _⟩
end Go.Proofs.Yteekdginloljjaa.MbW
