/- What each kind of reply writes. -/
import Derived.Test.YtamdpinfbadflaaReplyK
import Derived.Test.YtamdpinfbadflaaAskPack
import Derived.Test.YtamdpinfbadflaaAskRight
import Derived.RegionTactic
import Derived.Deep.RegionHeld3
open Go.RowKit
namespace Go.Proofs.Ytamdpinfbadflaa.ReplyW
open AskM ReplyM AskW Mem

theorem b8_one : ∀ x : UInt8, (b8 x).oneCell' = true := fun _ => rfl
theorem fresh_of_puts {w w1 w2 : World} {base : Nat} {v : Value} {l : List UInt8} {e : Ending} (hb : Below w.heap.size w w1) (h : Puts base v l w1 e w2) (hbase : w.heap.size ≤ base) (hv : ∀ k, v.ownBlock = some k → w.heap.size ≤ k) : Fresh b8 l w e w2 := by
  obtain ⟨v', rfl, ho, hg⟩ := h
  exact Fresh.of_own ho hbase (Grew.below hb hg hb.size hv)
theorem sl_of_row {α : Type} {f : α → Value} {w : World} {g : Nat} {e : TypeId} {fr : Nat × Nat} {cs : Array Value} {l : List α} (h : w.heap[g]? = some (.cells cs e fr)) (hcs : cs.toList = l.map f) {n : Nat} (hl : l.length = n) (hm : n ≤ 1000000) : Sl f w w.heap.size (some ⟨g, 0, none⟩) n n l := by
  refine ⟨hl, Nat.le_refl _, by unfold maxLen; omega, (fun h => by cases h), fun _ => ⟨g, 0, rfl, (Array.getElem?_eq_some_iff.1 h).1, fun i x hx => ?_⟩⟩
  rw [Nat.zero_add, cell_of_row _ _ _ _ _ _ h, ← Array.getElem?_toList, hcs, List.getElem?_map, hx]
  rfl
/-- One byte, and numbers put behind it. -/
theorem put_row {w W : World} (hW : Below w.heap.size w W) (x : UInt8) (l : List UInt16) (cx cs : Array Value) (g h n : Nat) (v u : Value) (hv : v = .slice (some ⟨g, 0, none⟩) 1 1) (hu : u = .slice (some ⟨h, 0, none⟩) n n) (hg : w.heap.size ≤ g) (hne : g ≠ h)
    (h1 : W.heap[g]? = some (.cells cx 5 (0, 0))) (hcx : cx.toList = [b8 x]) (h2 : W.heap[h]? = some (.cells cs 29 (0, 0))) (hcs : cs.toList = l.map b16) (hl : l.length = n) (hn : n ≤ 1000) :
    Calls Try.prog 105 #[v, u] W (Fresh b8 (x :: putN l) w) := by
  subst hv hu
  have hc : cx = [b8 x].toArray := by rw [← hcx]
  subst hc
  have hown := own_of_row (w := W) (g := g) (e := 5) (cs := [b8 x]) h1 (n := 1) (by simp) (by simp; unfold maxLen; omega) (base := w.heap.size) hg
  refine (rput_any _ 1 [x] _ n n l w.heap.size W hown (sl_of_row h2 hcs hl (by omega)) (fun y hy => ?_) (by omega) hW.size).mono fun e w' hp => ?_
  · injection hy with hy; subst hy; simp [Value.ownBlock, hne]
  · exact fresh_of_puts hW hp (Nat.le_refl _) (by simp [Value.ownBlock]; omega)
theorem at_three (w : World) (o1 o2 o3 o4 : Obj) : ((((w.alloc o1).alloc o2).alloc o3).alloc o4).heap[w.heap.size + 1 + 1 + 1]? = some o4 :=
  (congrArg (fun i => ((((w.alloc o1).alloc o2).alloc o3).alloc o4).heap[i]?) (by simp)).trans (heap_alloc_new (((w.alloc o1).alloc o2).alloc o3) _)
theorem put_nil (a : Option Addr) (n c : Nat) (l : List UInt16) (w : World) (hS : Sl b16 w w.heap.size a n c l) (hn : n ≤ 1000) : Calls Try.prog 105 #[.slice none 0 0, .slice a n c] w (Fresh b8 (putN l) w) :=
  (rput_any (.slice none 0 0) 0 [] a n c l w.heap.size w ⟨rfl, .inl ⟨rfl, rfl⟩⟩ hS (fun x hx => by simp [Value.ownBlock]) (by omega) (Nat.le_refl _)).mono fun e w' h => fresh_of_puts (Below.refl _ _) h (Nat.le_refl _) (by simp [Value.ownBlock])
theorem add128 {f : UInt8} (h : f.toNat < 128) : (f.toNat : Int) + 128 = ((f + 128 : UInt8).toNat : Int) := by
  have : (f + 128).toNat = f.toNat + 128 := by rw [UInt8.toNat_add]; show (f.toNat + 128) % 256 = _; omega
  omega
theorem list_any (f : UInt8) (a : Option Addr) (n c : Nat) (l : List UInt8) (w : World) (hS : Sl b8 w w.heap.size a n c l) (hn : n ≤ 255) :
    Calls Try.prog 100 #[b8 f, .slice a n c] w (Fresh b8 (f :: UInt8.ofNat l.length :: l) w) := by
  obtain ⟨i0, hi, hz0, hz1, hz2⟩ := info_parts info8
  have hz2' : i0.bytes = 1 := hz2
  have hl := hS.len
  have HV : Hid ([b8 f, .int .u8 (n : Int)] ++ l.map b8 = (f :: UInt8.ofNat l.length :: l).map b8) := Lib.hid (by
    have : (UInt8.ofNat l.length).toNat = n := by rw [hl, ofNat_toNat8 (by omega)]
    simp [this])
  have HL := Lib.hid hl
  clear hl
  go_enter Try.func100, Try.ntmps100
  go_wp2_with (at_builtin; go_loud (refine wpList_append_sl (f := b8) b8_one rfl (.tmp 9) (.tmp 10) 51 rfl w.heap.size 5 i0 (.int .u8 0) 1 Try.underlying51 hi hz0 hz1 hz2' rfl (.slice (some ⟨w.heap.size, 0, none⟩) 2 2) 2 [b8 f, .int .u8 (n : Int)] rfl (own_new w #[b8 f, .int .u8 (n : Int)] 5 (Nat.le_refl _) rfl (by omega)) a n c rfl (hS.alloc (Nat.le_refl _) _) (by unfold maxLen; omega) (by omega) (by simp) ?_; intro v4 w4 hown4 hgrow4; have HB := Lib.hid (((Below.refl w.heap.size w).alloc (Nat.le_refl _) (.cells #[b8 f, .int .u8 (n : Int)] 5)).grown hgrow4 (by simp) (by simp [Value.ownBlock])); rw [HV.out] at hown4; have HO := Lib.hid hown4; clear hown4 hgrow4))
  go_ret
  exact Fresh.of_own HO.out (Nat.le_refl _) HB.out
section
variable (r : Rep) (aw : Option Addr) (cw : Nat) (ab : Option Addr) (cb : Nat) (w : World)
theorem exc_write (h : r.fn.toNat < 128) : Calls Try.prog 95 #[.agg #[], repV r aw cw ab cb] w (Fresh b8 (writeK .exc r) w) := by
  obtain ⟨f1, x1, b1, s1, a1, m1⟩ := r
  simp only at h
  have HV := Lib.hid (add128 h)
  go_enter Try.func95, Try.ntmps95
  go_wp2_with fail
  go_ret
  rw [HV.out]
  exact Fresh.mk rfl (Sl.new_at _ _ _ _ [f1 + 128, x1] 2 rfl rfl (by omega) _ (by simp)) ((below_two w _ _).alloc (by simp; omega) _) (fun y hy => by injection hy with hy; subst hy; simp; omega)
theorem listW_write (M : Nat) : Calls Try.prog 115 #[.agg #[.int .u16 (M : Int)], repV r aw cw ab cb] w (Fresh b8 (writeK (.listW M) r) w) := by
  obtain ⟨f1, x1, b1, s1, a1, m1⟩ := r
  go_enter Try.func115, Try.ntmps115
  go_wp2_with fail
  refine (put_row (w := w) (((below_two w _ _).alloc (by simp; omega) _).alloc (by simp; omega) _) f1 [a1, m1] _ _ (w.heap.size + 1 + 1) (w.heap.size + 1 + 1 + 1) 2 _ _ rfl rfl (by omega) (by omega) (at_two w _ _ _ |> (Below.heap_alloc _ _ _ (by simp)).trans) rfl (at_three w _ _ _ _) rfl rfl (by omega)).mono ?_
  intro e w' h
  obtain ⟨al, cl, rfl, hs, hb, hx⟩ := h
  have HS := Lib.hid (And.intro hs (And.intro hb hx))
  clear hs hb hx
  go_wp2_with fail
  go_ret
  exact Fresh.mk rfl HS.out.1 HS.out.2.1 HS.out.2.2
theorem bitW_write (hA : RepAt w w.heap.size r aw cw ab cb) (h : r.bits.length = 1) : Calls Try.prog 108 #[.agg #[], repV r aw cw ab cb] w (Fresh b8 (writeK .bitW r) w) := by
  obtain ⟨f1, x1, b1, s1, a1, m1⟩ := r
  obtain ⟨y, rfl⟩ := list_one h
  obtain ⟨b, off, y', rfl, hb, hy, hc⟩ := hA.bits.at_ (k := 0) (by simp)
  obtain rfl : y = y' := by simpa using hy
  rw [Nat.add_zero] at hc
  have hc2 := fun o1 o2 => ((below_two w o1 o2).cell (p := ⟨b, off, none⟩) hb).trans hc
  clear hA hc hy
  have HW : ∀ n, Hid (Calls Try.prog 105 #[.slice (some ⟨w.heap.size + 1 + 1, 0, none⟩) 1 1, .slice (some ⟨w.heap.size + 1 + 1 + 1, 0, none⟩) 2 2] ((((w.alloc (.cells #[] 115)).alloc (.cells #[b8 f1, b8 x1, .slice (some ⟨b, off, none⟩) 1 cb, .slice aw s1.length cw, b16 a1, b16 m1] 36)).alloc (.cells #[b8 f1] 5)).alloc (.cells #[b16 a1, b16 n] 29)) (Fresh b8 (f1 :: putN [a1, n]) w)) := fun n => Lib.hid
    (put_row (w := w) (((below_two w _ _).alloc (by simp; omega) _).alloc (by simp; omega) _) f1 [a1, n] _ _ (w.heap.size + 1 + 1) (w.heap.size + 1 + 1 + 1) 2 _ _ rfl rfl (by omega) (by omega) (at_two w _ _ _ |> (Below.heap_alloc _ _ _ (by simp)).trans) rfl (at_three w _ _ _ _) rfl rfl (by omega))
  cases y
  · have H0 := HW 0
    go_enter Try.func108, Try.ntmps108
    go_wp2_with fail
    refine H0.out.mono ?_
    intro e w' h
    obtain ⟨al, cl, rfl, hs, hb, hx⟩ := h
    have HS := Lib.hid (And.intro hs (And.intro hb hx))
    clear hs hb hx hc2
    go_wp2_with fail
    go_ret
    exact Fresh.mk rfl HS.out.1 HS.out.2.1 HS.out.2.2
  · have H0 := HW 65280
    go_enter Try.func108, Try.ntmps108
    go_wp2_with fail
    refine H0.out.mono ?_
    intro e w' h
    obtain ⟨al, cl, rfl, hs, hb, hx⟩ := h
    have HS := Lib.hid (And.intro hs (And.intro hb hx))
    clear hs hb hx hc2
    go_wp2_with fail
    go_ret
    exact Fresh.mk rfl HS.out.1 HS.out.2.1 HS.out.2.2
theorem bitsR_write (hA : RepAt w w.heap.size r aw cw ab cb) (h : r.bits.length ≤ 2000) : Calls Try.prog 98 #[.agg #[], repV r aw cw ab cb] w (Fresh b8 (writeK .bitsR r) w) := by
  have HA2 := Lib.hid (fun o1 o2 => hA.two o1 o2)
  obtain ⟨f1, x1, b1, s1, a1, m1⟩ := r
  simp only at h
  clear hA
  go_enter Try.func98, Try.ntmps98
  go_wp2_with fail
  have HH := heap_alloc_new (w.alloc (.cells #[] 113)) (.cells #[b8 f1, b8 x1, .slice ab b1.length cb, .slice aw s1.length cw, b16 a1, b16 m1] 36)
  have HB0 := below_two w (.cells #[] 113) (.cells #[b8 f1, b8 x1, .slice ab b1.length cb, .slice aw s1.length cw, b16 a1, b16 m1] 36)
  have HA := (HA2.out (.cells #[] 113) (.cells #[b8 f1, b8 x1, .slice ab b1.length cb, .slice aw s1.length cw, b16 a1, b16 m1] 36)).bits
  have hs1 : (w.alloc (.cells #[] 113)).heap.size = w.heap.size + 1 := by simp
  rw [hs1] at HH
  have hs2 : ((w.alloc (.cells #[] 113)).alloc (.cells #[b8 f1, b8 x1, .slice ab b1.length cb, .slice aw s1.length cw, b16 a1, b16 m1] 36)).heap.size = w.heap.size + 2 := by simp
  generalize (w.alloc (.cells #[] 113)).alloc (.cells #[b8 f1, b8 x1, .slice ab b1.length cb, .slice aw s1.length cw, b16 a1, b16 m1] 36) = W0 at *
  have hc0 := cell_of_row _ _ 0 _ _ _ HH
  have hc2 := cell_of_row _ _ 2 _ _ _ HH
  simp at hc0 hc2
  have HHH := Lib.hid HH
  have HBB := Lib.hid HB0
  have HAA := Lib.hid HA
  have hz : w.heap.size + 1 < W0.heap.size := by omega
  clear HH HB0 HA hs1 hs2 HA2
  have hn : (⟨f1, x1, b1, s1, a1, m1⟩ : Rep).bits.length ≤ 1000000 := by show b1.length ≤ 1000000; omega
  have HP := Lib.hid (Pack_any ab b1.length cb b1 W0.drew HAA.out hn)
  have hpl : (packN b1).length ≤ 255 := by rw [length_packN]; omega
  clear hn
  go_region_held3 (fun w' => w'.cell? ⟨w.heap.size + 1, 0, none⟩ = some (b8 f1) ∧ w'.cell? ⟨w.heap.size + 1, 2, none⟩ = some (.slice ab b1.length cb))
    (first
      | go_keep
      | exact ⟨hc0, hc2⟩
      | exact ⟨(hb.cell (p := ⟨w.heap.size + 1, 0, none⟩) hz).trans hc0, (hb.cell (p := ⟨w.heap.size + 1, 2, none⟩) hz).trans hc2⟩
      | exact ⟨(hb2.cell (p := ⟨w.heap.size + 1, 0, none⟩) (Nat.lt_of_lt_of_le hz hb.size)).trans ((hb.cell (p := ⟨w.heap.size + 1, 0, none⟩) hz).trans hc0), (hb2.cell (p := ⟨w.heap.size + 1, 2, none⟩) (Nat.lt_of_lt_of_le hz hb.size)).trans ((hb.cell (p := ⟨w.heap.size + 1, 2, none⟩) hz).trans hc2)⟩)
    (first
      | (go_at_call 77; refine HP.out.mono ?_; rintro e w1 ⟨a2, c2, rfl, hs, hb, hx⟩; have HS := Lib.hid hs; clear hs hx)
      | (go_at_call 100; refine (list_any f1 _ _ _ _ _ HS.out hpl).mono ?_; rintro e w2 ⟨a3, c3, rfl, hs3, hb2, hx3⟩; have HS3 := Lib.hid hs3; have HX3 := Lib.hid hx3; clear hs3 hx3))
  have HW1 := Lib.hid (HBB.out.drew.trans (hb.mono HBB.out.drew.size))
  have HW2 := Lib.hid (HW1.out.trans (hb2.mono HW1.out.size))
  clear hb hb2 hc0 hc2
  go_wp2_with fail
  go_ret
  exact Fresh.mk rfl HS3.out HW2.out (fun y hy => Nat.le_trans HW1.out.size (HX3.out y hy))
theorem wordsR_write (hA : RepAt w w.heap.size r aw cw ab cb) (h : r.words.length ≤ 125) : Calls Try.prog 103 #[.agg #[], repV r aw cw ab cb] w (Fresh b8 (writeK .wordsR r) w) := by
  have HA2 := Lib.hid (fun o1 o2 => hA.two o1 o2)
  obtain ⟨f1, x1, b1, s1, a1, m1⟩ := r
  simp only at h
  clear hA
  go_enter Try.func103, Try.ntmps103
  go_wp2_with fail
  have HH := heap_alloc_new (w.alloc (.cells #[] 114)) (.cells #[b8 f1, b8 x1, .slice ab b1.length cb, .slice aw s1.length cw, b16 a1, b16 m1] 36)
  have HB0 := below_two w (.cells #[] 114) (.cells #[b8 f1, b8 x1, .slice ab b1.length cb, .slice aw s1.length cw, b16 a1, b16 m1] 36)
  have HA := (HA2.out (.cells #[] 114) (.cells #[b8 f1, b8 x1, .slice ab b1.length cb, .slice aw s1.length cw, b16 a1, b16 m1] 36)).words
  have hs1 : (w.alloc (.cells #[] 114)).heap.size = w.heap.size + 1 := by simp
  rw [hs1] at HH
  have hs2 : ((w.alloc (.cells #[] 114)).alloc (.cells #[b8 f1, b8 x1, .slice ab b1.length cb, .slice aw s1.length cw, b16 a1, b16 m1] 36)).heap.size = w.heap.size + 2 := by simp
  generalize (w.alloc (.cells #[] 114)).alloc (.cells #[b8 f1, b8 x1, .slice ab b1.length cb, .slice aw s1.length cw, b16 a1, b16 m1] 36) = W0 at *
  have hc0 := cell_of_row _ _ 0 _ _ _ HH
  have hc2 := cell_of_row _ _ 3 _ _ _ HH
  simp at hc0 hc2
  have HHH := Lib.hid HH
  have HBB := Lib.hid HB0
  have HAA := Lib.hid HA
  have hz : w.heap.size + 1 < W0.heap.size := by omega
  clear HH HB0 HA hs1 hs2 HA2
  have HP := Lib.hid (put_nil aw s1.length cw s1 W0.drew HAA.out (by omega))
  have hpl : (putN s1).length ≤ 255 := by rw [length_putN]; omega
  go_region_held3 (fun w' => w'.cell? ⟨w.heap.size + 1, 0, none⟩ = some (b8 f1) ∧ w'.cell? ⟨w.heap.size + 1, 3, none⟩ = some (.slice aw s1.length cw))
    (first
      | go_keep
      | exact ⟨hc0, hc2⟩
      | exact ⟨(hb.cell (p := ⟨w.heap.size + 1, 0, none⟩) hz).trans hc0, (hb.cell (p := ⟨w.heap.size + 1, 3, none⟩) hz).trans hc2⟩
      | exact ⟨(hb2.cell (p := ⟨w.heap.size + 1, 0, none⟩) (Nat.lt_of_lt_of_le hz hb.size)).trans ((hb.cell (p := ⟨w.heap.size + 1, 0, none⟩) hz).trans hc0), (hb2.cell (p := ⟨w.heap.size + 1, 3, none⟩) (Nat.lt_of_lt_of_le hz hb.size)).trans ((hb.cell (p := ⟨w.heap.size + 1, 3, none⟩) hz).trans hc2)⟩)
    (first
      | (go_at_call 105; refine HP.out.mono ?_; rintro e w1 ⟨a2, c2, rfl, hs, hb, hx⟩; have HS := Lib.hid hs; clear hs hx)
      | (go_at_call 100; refine (list_any f1 _ _ _ _ _ HS.out hpl).mono ?_; rintro e w2 ⟨a3, c3, rfl, hs3, hb2, hx3⟩; have HS3 := Lib.hid hs3; have HX3 := Lib.hid hx3; clear hs3 hx3))
  have HW1 := Lib.hid (HBB.out.drew.trans (hb.mono HBB.out.drew.size))
  have HW2 := Lib.hid (HW1.out.trans (hb2.mono HW1.out.size))
  clear hb hb2 hc0 hc2
  go_wp2_with fail
  go_ret
  exact Fresh.mk rfl HS3.out HW2.out (fun y hy => Nat.le_trans HW1.out.size (HX3.out y hy))
set_option maxRecDepth 100000 in
set_option maxHeartbeats 2000000 in
theorem wordW_write (hA : RepAt w w.heap.size r aw cw ab cb) (h : r.words.length = 1) : Calls Try.prog 112 #[.agg #[], repV r aw cw ab cb] w (Fresh b8 (writeK .wordW r) w) := by
  obtain ⟨f1, x1, b1, s1, a1, m1⟩ := r
  obtain ⟨y, rfl⟩ := list_one h
  obtain ⟨b, off, y', rfl, hb, hy, hc⟩ := hA.words.at_ (k := 0) (by simp)
  obtain rfl : y = y' := by simpa using hy
  rw [Nat.add_zero] at hc
  have hc2 := fun o1 o2 => ((below_two w o1 o2).cell (p := ⟨b, off, none⟩) hb).trans hc
  have HC2 := Lib.hid hc2
  clear hA hc hy hc2
  go_enter Try.func112, Try.ntmps112
  go_wp2_with fail
  have HH := heap_alloc_new (w.alloc (.cells #[] 116)) (.cells #[b8 f1, b8 x1, .slice ab b1.length cb, .slice (some ⟨b, off, none⟩) 1 cw, b16 a1, b16 m1] 36)
  have HB0 := below_two w (.cells #[] 116) (.cells #[b8 f1, b8 x1, .slice ab b1.length cb, .slice (some ⟨b, off, none⟩) 1 cw, b16 a1, b16 m1] 36)
  have HC := HC2.out (.cells #[] 116) (.cells #[b8 f1, b8 x1, .slice ab b1.length cb, .slice (some ⟨b, off, none⟩) 1 cw, b16 a1, b16 m1] 36)
  have hs1 : (w.alloc (.cells #[] 116)).heap.size = w.heap.size + 1 := by simp
  rw [hs1] at HH
  have hs2 : ((w.alloc (.cells #[] 116)).alloc (.cells #[b8 f1, b8 x1, .slice ab b1.length cb, .slice (some ⟨b, off, none⟩) 1 cw, b16 a1, b16 m1] 36)).heap.size = w.heap.size + 2 := by simp
  generalize (w.alloc (.cells #[] 116)).alloc (.cells #[b8 f1, b8 x1, .slice ab b1.length cb, .slice (some ⟨b, off, none⟩) 1 cw, b16 a1, b16 m1] 36) = W0 at *
  have hc0 := cell_of_row _ _ 0 _ _ _ HH
  have hc3 := cell_of_row _ _ 3 _ _ _ HH
  have hc4 := cell_of_row _ _ 4 _ _ _ HH
  simp at hc0 hc3 hc4
  have HHH := Lib.hid HH
  have HBB := Lib.hid HB0
  have hz : w.heap.size + 1 < W0.heap.size := by omega
  have hzb : b < W0.heap.size := by omega
  clear HH HB0 hs1 hs2 HC2
  have HPUT := Lib.hid (put_row (w := W0) (W := ((W0.alloc (.cells #[b8 f1] 5)).alloc (.cells #[b16 a1, b16 y] 29)).drew) (below_two W0 _ _).drew f1 [a1, y] #[b8 f1] #[b16 a1, b16 y] W0.heap.size (W0.heap.size + 1) 2 _ _ rfl rfl (Nat.le_refl _) (by omega) ((Below.heap_alloc _ _ _ (by simp)).trans (heap_alloc_new W0 _)) rfl (at_one W0 _ _) rfl rfl (by omega))
  have HPUT2 := Lib.hid (put_row (w := W0) (W := ((W0.alloc (.cells #[b16 a1, b16 y] 29)).alloc (.cells #[b8 f1] 5)).drew) (below_two W0 _ _).drew f1 [a1, y] #[b8 f1] #[b16 a1, b16 y] (W0.heap.size + 1) W0.heap.size 2 _ _ rfl rfl (by omega) (by omega) (at_one W0 _ _) rfl ((Below.heap_alloc _ _ _ (by simp)).trans (heap_alloc_new W0 _)) rfl rfl (by omega))
  go_region_held3 (fun w' => w'.cell? ⟨w.heap.size + 1, 0, none⟩ = some (b8 f1) ∧ w'.cell? ⟨w.heap.size + 1, 3, none⟩ = some (.slice (some ⟨b, off, none⟩) 1 cw) ∧ w'.cell? ⟨w.heap.size + 1, 4, none⟩ = some (b16 a1) ∧ w'.cell? ⟨b, off, none⟩ = some (b16 y))
    (first
      | go_keep
      | exact ⟨hc0, hc3, hc4, HC⟩
      | exact ⟨(hb2.cell (p := ⟨w.heap.size + 1, 0, none⟩) hz).trans hc0, (hb2.cell (p := ⟨w.heap.size + 1, 3, none⟩) hz).trans hc3, (hb2.cell (p := ⟨w.heap.size + 1, 4, none⟩) hz).trans hc4, (hb2.cell (p := ⟨b, off, none⟩) hzb).trans HC⟩)
    (first
      | (go_at_call 105; (first | (with_reducible refine HPUT.out.mono ?_) | (with_reducible refine HPUT2.out.mono ?_)); rintro e w1 ⟨a2, c2, rfl, hs, hb2, hx⟩; have HS := Lib.hid hs; have HX := Lib.hid hx; clear hs hx))
  all_goals
    have HW1 := Lib.hid (HBB.out.trans (hb2.mono HBB.out.size))
    clear hb2 hc0 hc3 hc4 HC
    go_wp2_with fail
    go_ret
    exact Fresh.mk rfl HS.out HW1.out (fun y hy => Nat.le_trans HBB.out.size (HX.out y hy))
end
end Go.Proofs.Ytamdpinfbadflaa.ReplyW
