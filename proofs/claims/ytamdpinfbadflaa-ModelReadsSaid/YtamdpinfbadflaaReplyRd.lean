/- What each kind of reply reads. -/
import Derived.Test.YtamdpinfbadflaaReplyWr
import Derived.Test.YtamdpinfbadflaaAskOut
import Derived.Test.YtamdpinfbadflaaAskUnpack
open Go.RowKit
namespace Go.Proofs.Ytamdpinfbadflaa.ReplyW
open AskM ReplyM AskW Mem

/-- The block g is a reply's. -/
def RepBlock (W : World) (g : Nat) : Prop := ∃ f b m t ws bs : Value, W.heap[g]? = some (.cells #[f, b, m, t, ws, bs] 36 (0, 0))
section
variable {W W' : World} {g : Nat} {f b m t ws bs : Value}
theorem rsetAll_heap (h : RepBlock W g) : (setAll W g f b m t ws bs).heap[g]? = some (.cells #[f, b, m, t, ws, bs] 36 (0, 0)) := by
  obtain ⟨f', b', m', t', ws', bs', h⟩ := h
  unfold setAll
  have h0 := heap_setCell_same _ _ 0 _ _ f h
  have h1 := heap_setCell_same _ _ 1 _ _ b h0
  have h2 := heap_setCell_same _ _ 2 _ _ m h1
  have h3 := heap_setCell_same _ _ 3 _ _ t h2
  have h4 := heap_setCell_same _ _ 4 _ _ ws h3
  exact heap_setCell_same _ _ 5 _ _ bs h4
theorem RepBlock.below {B : Nat} (h : RepBlock W g) (hb : Below B W W') (hg : g < B) : RepBlock W' g := by
  obtain ⟨f', b', m', t', ws', bs', h⟩ := h
  exact ⟨f', b', m', t', ws', bs', (hb.block g hg).trans h⟩
theorem RepBlock.cell (h : RepBlock W g) (i : Nat) (hi : i < 6) : ∃ v, W.cell? ⟨g, i, none⟩ = some v := by
  obtain ⟨f', b', m', t', ws', bs', h⟩ := h
  rw [cell_of_row _ _ i _ _ _ h]
  exact ⟨_, Array.getElem?_eq_getElem (by simpa using hi)⟩
theorem RepBlock.frozen (h : RepBlock W g) (i : Nat) : W.frozen? ⟨g, i, none⟩ = false := by
  obtain ⟨f', b', m', t', ws', bs', h⟩ := h
  exact frozen_of_row _ _ i _ _ h
end
abbrev zeroRC : Array Value := #[.int .u8 0, .int .u8 0, .slice none 0 0, .slice none 0 0, .int .u16 0, .int .u16 0]
/-- A reply, and whether there is one. -/
def ReadR (o : Option Rep) (w : World) (e : Ending) (w' : World) : Prop :=
  ∃ aw cw ab cb, e = .returned (.tuple #[repV (o.getD zeroR) aw cw ab cb, .bool o.isSome]) ∧ RepAt w' w'.heap.size (o.getD zeroR) aw cw ab cb ∧ Below w.heap.size w w' ∧ ∀ x : Addr, aw = some x ∨ ab = some x → w.heap.size ≤ x.block
theorem readR_none {o : Option Rep} {w w' : World} (ho : o = none) (h : Below w.heap.size w w') : ReadR o w (.returned (.tuple #[.agg zeroRC, .bool false])) w' := by
  subst ho
  exact ⟨none, 0, none, 0, rfl, RepAt.nil rfl rfl, h, fun x hx => by rcases hx with hx | hx <;> cases hx⟩
theorem readR_some {o : Option Rep} {q : Rep} {w w' : World} (ho : o = some q) {aw ab : Option Addr} {cw cb : Nat} {v : Value} (hv : v = repV q aw cw ab cb) (hA : RepAt w' w'.heap.size q aw cw ab cb) (h : Below w.heap.size w w') (hx : ∀ x : Addr, aw = some x ∨ ab = some x → w.heap.size ≤ x.block) : ReadR o w (.returned (.tuple #[v, .bool true])) w' := by
  subst ho hv
  exact ⟨aw, cw, ab, cb, rfl, hA, h, hx⟩
/-- What stands behind a function and the number of the bytes that follow. -/
def Listed (B : Nat) (r : List UInt8) (w : World) (e : Ending) (w' : World) : Prop :=
  ∃ a' c', e = .returned (.tuple #[.slice a' r.length c', .bool true]) ∧ Sl b8 w B a' r.length c' r ∧ w = w'
theorem Listed.mk {B : Nat} {r : List UInt8} {w : World} {a : Option Addr} {n c : Nat} (h : Sl b8 w B a n c r) : Listed B r w (.returned (.tuple #[.slice a n c, .bool true])) w := by
  obtain rfl := h.len
  exact ⟨a, c, rfl, h, rfl⟩
theorem listed_parts {l : List UInt8} {x y : UInt8} {r : List UInt8} (h : l = x :: y :: r) : listedN l = decide (l.length = 2 + y.toNat) := by
  subst h
  simp [listedN, List.getD]
theorem listed_any (B : Nat) (a : Option Addr) (n c : Nat) (l : List UInt8) (w : World) (hS : Sl b8 w B a n c l) :
    (listedN l = false → Calls Try.prog 99 #[.slice a n c] w fun e w' => e = .returned (.tuple #[.slice none 0 0, .bool false]) ∧ w = w') ∧
    (listedN l = true → Calls Try.prog 99 #[.slice a n c] w (Listed B (l.drop 2) w)) := by
  have hn := len_le hS
  have hl := hS.len
  by_cases h2 : n < 2
  · have t1 : decide ((n : Int) < 2) = true := by simp; omega
    constructor
    · intro _
      go_enter Try.func99, Try.ntmps99
      go_wp2_with fail
      go_ret2
      exact ⟨rfl, rfl⟩
    · intro h
      obtain ⟨x, y, r, rfl, _⟩ := listed_cons h
      simp at hl
      omega
  · have t1 : decide ((n : Int) < 2) = false := by simp; omega
    obtain ⟨x, y, r, hr⟩ : ∃ x y r, l = x :: y :: r := by
      rcases l with _ | ⟨x, _ | ⟨y, r⟩⟩ <;> simp at hl <;> first | exact ⟨_, _, _, rfl⟩ | omega
    have hd := listed_parts hr
    rw [hl] at hd
    obtain ⟨b, off, rfl, hb, hc⟩ := hS.cells (by omega)
    have h1 := hc 1 y (by rw [hr]; rfl)
    have HF := Lib.hid (hS.from_ (k := 2) (by omega))
    have hy := y.toNat_lt
    clear hc hS hr
    rw [hd]
    clear hd hl
    by_cases he : n = 2 + y.toNat
    · have t2 : ((n : Int) != 2 + (y.toNat : Int)) = false := by simp; omega
      have HE := Lib.hid he
      refine ⟨fun h => by simp [he] at h, fun _ => ?_⟩
      clear he
      go_enter Try.func99, Try.ntmps99
      go_wp2_with fail
      · have hc2 : c = 2 := by assumption
        go_ret2
        exact Listed.mk (by have h2 := HF.out; rw [if_pos hc2, hc2] at h2; simpa [Addr.add] using h2)
      · have hc2 : ¬ c = 2 := by assumption
        go_ret2
        exact Listed.mk (by have h2 := HF.out; rw [if_neg hc2] at h2; simpa [Addr.add] using h2)
    · have t2 : ((n : Int) != 2 + (y.toNat : Int)) = true := by simp; omega
      refine ⟨fun _ => ?_, fun h => by simp [he] at h⟩
      clear he
      go_enter Try.func99, Try.ntmps99
      go_wp2_with fail
      go_ret2
      exact ⟨rfl, rfl⟩
/-- The two numbers behind a function. -/
def Paired (p1 p3 : UInt16) (w : World) (e : Ending) (w' : World) : Prop := e = .returned (.tuple #[b16 p1, b16 p3, .bool true]) ∧ ∃ q, w' = w.drewN q
theorem pair_no (B : Nat) (a : Option Addr) (n c : Nat) (l : List UInt8) (w : World) (hS : Sl b8 w B a n c l) (h : n ≠ 5) :
    Calls Try.prog 109 #[.slice a n c] w fun e w' => e = .returned (.tuple #[.int .u16 0, .int .u16 0, .bool false]) ∧ w = w' := by
  have hn := len_le hS
  have t1 : ((n : Int) != 5) = true := by simp; omega
  clear hS h
  go_enter Try.func109, Try.ntmps109
  go_wp2_with fail
  go_ret3
  exact ⟨rfl, rfl⟩
theorem pair_yes (B : Nat) (a : Option Addr) (c : Nat) (l : List UInt8) (w : World) (hS : Sl b8 w B a 5 c l) :
    Calls Try.prog 109 #[.slice a 5 c] w (Paired (at16 l 1) (at16 l 3) w) := by
  obtain ⟨b, off, rfl, hb, hc⟩ := hS.cells (by omega)
  have hcc := hS.nle
  have hcm := hS.cle
  unfold maxLen at hcm
  have f1 := hS.from_ (k := 1) (by omega)
  have f3 := hS.from_ (k := 3) (by omega)
  rw [if_neg (by omega)] at f1 f3
  have g1 : Sl b8 w B (some ⟨b, off + 1, none⟩) 4 (c - 1) (l.drop 1) := by simpa [Addr.add] using f1
  have g3 : Sl b8 w B (some ⟨b, off + 3, none⟩) 2 (c - 3) (l.drop 3) := by simpa [Addr.add] using f3
  have N1 : Calls Try.prog 104 #[.slice (some ⟨b, off + 1, none⟩) 4 (c - 1)] w.drew (SaysD (b16 (at16 l 1)) w.drew) := by
    have h := number_any B _ 4 (c - 1) (l.drop 1) w.drew (g1.drawn 1) (by omega)
    rwa [at16_drop] at h
  have N3 : ∀ W, (∃ q, W = w.drew.drewN q) → Calls Try.prog 104 #[.slice (some ⟨b, off + 3, none⟩) 2 (c - 3)] W (SaysD (b16 (at16 l 3)) W) := by
    rintro W ⟨q, rfl⟩
    have h := number_any B _ 2 (c - 3) (l.drop 3) (w.drew.drewN q) (g3.drawn (1 + q)) (by omega)
    rwa [at16_drop] at h
  have HN1 := Lib.hid N1
  have HN3 := Lib.hid N3
  clear hS hc f1 f3 g1 g3 N1 N3
  have c1 : ¬ c = 1 := by omega
  have c3 : ¬ c = 3 := by omega
  go_enter Try.func109, Try.ntmps109
  go_wp2_with fail
  go_region_held3 (fun _ => True)
    (first | exact trivial)
    (first
      | (go_at_call 104; (with_reducible refine HN1.out.mono ?_); rintro e w1 ⟨rfl, q, hq⟩; have HQ := Lib.hid hq; clear hq)
      | (go_at_call 104; (with_reducible refine (HN3.out _ ⟨_, HQ.out⟩).mono ?_); rintro e w2 ⟨rfl, q2, hq2⟩; have HQ2 := Lib.hid hq2; clear hq2))
  go_wp2_with fail
  go_ret3
  exact ⟨rfl, 1 + q + q2, by rw [HQ2.out, HQ.out]; simp only [World.drewN, World.drew]; congr 1; omega⟩
-- READS
theorem rsetAlloc_heap {W : World} {g : Nat} {f b m t ws bs : Value} {o : Obj} (hs : g < W.heap.size) (h : RepBlock W g) : ((setAll W g f b m t ws bs).alloc o).heap[g]? = some (.cells #[f, b, m, t, ws, bs] 36 (0, 0)) :=
  (Below.heap_alloc _ _ _ (by rw [setAll_size]; exact hs)).trans (rsetAll_heap h)
theorem rset_new {W : World} {g k : Nat} {f b m t ws bs : Value} {o : Obj} (hk : k = W.heap.size) : ((setAll W g f b m t ws bs).alloc o).heap[k]? = some o := by
  subst hk
  have h := heap_alloc_new (setAll W g f b m t ws bs) o
  rwa [setAll_size] at h
theorem rset_below {w W : World} {g : Nat} {f b m t ws bs : Value} (h : Below w.heap.size w W) (hg : w.heap.size ≤ g) (o : Obj) : Below w.heap.size w ((setAll W g f b m t ws bs).alloc o) :=
  (setAll_below h hg).alloc (by rw [setAll_size]; exact h.size) o
theorem below_twoD (w : World) (o1 o2 : Obj) (q : Nat) : Below w.heap.size w (((w.alloc o1).alloc o2).drewN q) := below_drawn (below_two w o1 o2) q
theorem repBlock_two (w : World) (o1 : Obj) (cs : Array Value) (q : Nat) (f b m t ws bs : Value) (hcs : cs = #[f, b, m, t, ws, bs]) : RepBlock (((w.alloc o1).alloc (.cells cs 36)).drewN q) (w.heap.size + 1) := by
  subst hcs
  exact ⟨f, b, m, t, ws, bs, at_one w _ _⟩

theorem set_fin (w : World) (T0 E : TypeId) (q : Nat) (f b m t ws bs : Value) (cs : Array Value) :
    (((setAll (((w.alloc (.cells #[] T0)).alloc (.cells zeroRC 36)).drewN q) (w.heap.size + 1) f b m t ws bs).alloc (.cells cs E)).heap[w.heap.size + 1]? = some (.cells #[f, b, m, t, ws, bs] 36 (0, 0))) ∧
    (((setAll (((w.alloc (.cells #[] T0)).alloc (.cells zeroRC 36)).drewN q) (w.heap.size + 1) f b m t ws bs).alloc (.cells cs E)).heap[w.heap.size + 1 + 1]? = some (.cells cs E (0, 0))) ∧
    Below w.heap.size w ((setAll (((w.alloc (.cells #[] T0)).alloc (.cells zeroRC 36)).drewN q) (w.heap.size + 1) f b m t ws bs).alloc (.cells cs E)) :=
  ⟨rsetAlloc_heap (by simp [World.drewN]) (repBlock_two w _ _ q _ _ _ _ _ _ rfl), rset_new (by simp [World.drewN]), rset_below (below_twoD w _ _ q) (by omega) _⟩
set_option maxHeartbeats 2000000 in
theorem bitW_read (a : Option Addr) (n c : Nat) (l : List UInt8) (w : World) (hS : Sl b8 w w.heap.size a n c l) :
    Calls Try.prog 106 #[.agg #[], .slice a n c] w (ReadR (readK .bitW l) w) := by
  have hl := hS.len
  have hS2 := fun o1 o2 => hS.below (below_two w o1 o2) (Nat.le_refl _)
  by_cases h5 : n = 5
  case neg =>
    have HF : Hid (readK .bitW l = none) := Lib.hid (by simp only [readK]; rw [if_neg (by omega)])
    have hno := fun o1 o2 => pair_no _ a n c l _ (hS2 o1 o2) h5
    have HN := Lib.hid hno
    clear hno hS2 hS h5 hl
    go_enter Try.func106, Try.ntmps106
    go_wp2_with fail
    refine (HN.out _ _).mono ?_
    rintro e w1 ⟨rfl, rfl⟩
    go_wp2_with fail
    exact bodyPost_ret (v := .tuple #[.agg zeroRC, .bool false]) (results_cell_row_tmp rfl _ _ (w.heap.size + 1) 36 zeroRC (0, 0) _ rfl (at_one w _ _) Try.underlying36 rfl (by kernel_rfl) _ rfl) rfl (readR_none HF.out (below_two w _ _))
  subst h5
  obtain ⟨b, off, x, rfl, hb, hx, hc⟩ := hS.at_ (k := 0) (by omega)
  rw [Nat.add_zero] at hc
  have hx0 : l.getD 0 0 = x := getD_zero hx
  have hc2 := fun o1 o2 => ((below_two w o1 o2).cell (p := ⟨b, off, none⟩) hb).trans hc
  have HY := Lib.hid (fun o1 o2 => pair_yes _ _ c l _ (hS2 o1 o2))
  have HR : Hid (readK .bitW l = if at16 l 3 = 65280 ∨ at16 l 3 = 0 then some ⟨x, 0, [decide (at16 l 3 = 65280)], [], at16 l 1, 0⟩ else none) := Lib.hid (by
    simp only [readK, hx0]
    by_cases h : at16 l 3 = 65280 ∨ at16 l 3 = 0
    · rw [if_pos ⟨hl, h⟩, if_pos h]
    · rw [if_neg (fun h2 => h h2.2), if_neg h])
  clear hS2 hS hl hx hx0 hc
  generalize at16 l 1 = p1 at *
  generalize at16 l 3 = p3 at *
  have hp := p3.toNat_lt
  have n3 : ¬ p3 = 65280 → ¬ p3.toNat = 65280 := fun h e => h (UInt16.toNat_inj.1 (by rw [e]; rfl))
  have n4 : ¬ p3 = 0 → ¬ p3.toNat = 0 := fun h e => h (UInt16.toNat_inj.1 (by rw [e]; rfl))
  by_cases k1 : p3 = 65280
  · have t1 : ((p3.toNat : Int) != 65280) = false := by subst k1; rfl
    have t2 : ((p3.toNat : Int) == 65280) = true := by subst k1; rfl
    have HR2 : Hid (readK .bitW l = some ⟨x, 0, [true], [], p1, 0⟩) := Lib.hid (by rw [HR.out, if_pos (.inl k1)]; simp [k1])
    clear k1 HR n3 n4
    go_enter Try.func106, Try.ntmps106
    go_wp2_with fail
    refine (HY.out _ _).mono ?_
    rintro e w1 ⟨rfl, q, rfl⟩
    clear HY
    go_wp2_with fail
    have HS := set_fin w 115 4 q (b8 x) (.int .u8 0) (.slice (some ⟨w.heap.size + 1 + 1, 0, none⟩) 1 1) (.slice none 0 0) (b16 p1) (.int .u16 0) #[.bool true]
    unfold setAll at HS
    obtain ⟨H1, H2, H3⟩ := HS
    exact bodyPost_ret (v := .tuple #[.agg #[b8 x, .int .u8 0, .slice (some ⟨w.heap.size + 1 + 1, 0, none⟩) 1 1, .slice none 0 0, b16 p1, .int .u16 0], .bool true]) (results_cell_row_tmp rfl _ _ (w.heap.size + 1) 36 _ (0, 0) _ rfl H1 Try.underlying36 rfl (by kernel_rfl) _ rfl) rfl
      (readR_some (q := ⟨x, 0, [true], [], p1, 0⟩) (aw := none) (cw := 0) (ab := some ⟨w.heap.size + 1 + 1, 0, none⟩) (cb := 1) HR2.out rfl ⟨Sl.none_, sl_of_row H2 rfl rfl (by simp)⟩ H3 (fun y hy => by rcases hy with hy | hy <;> first | (cases hy; done) | (injection hy with hy; subst hy; simp; omega)))
  · have t1 : ((p3.toNat : Int) != 65280) = true := by have := n3 k1; simp; omega
    have t2 : ((p3.toNat : Int) == 65280) = false := by have := n3 k1; simp; omega
    by_cases k2 : p3 = 0
    · have t3 : ((p3.toNat : Int) != 0) = false := by subst k2; rfl
      have HR2 : Hid (readK .bitW l = some ⟨x, 0, [false], [], p1, 0⟩) := Lib.hid (by rw [HR.out, if_pos (.inr k2)]; simp [k1])
      clear k1 k2 HR n3 n4
      go_enter Try.func106, Try.ntmps106
      go_wp2_with fail
      refine (HY.out _ _).mono ?_
      rintro e w1 ⟨rfl, q, rfl⟩
      clear HY
      go_wp2_with fail
      have HS := set_fin w 115 4 q (b8 x) (.int .u8 0) (.slice (some ⟨w.heap.size + 1 + 1, 0, none⟩) 1 1) (.slice none 0 0) (b16 p1) (.int .u16 0) #[.bool false]
      unfold setAll at HS
      obtain ⟨H1, H2, H3⟩ := HS
      exact bodyPost_ret (v := .tuple #[.agg #[b8 x, .int .u8 0, .slice (some ⟨w.heap.size + 1 + 1, 0, none⟩) 1 1, .slice none 0 0, b16 p1, .int .u16 0], .bool true]) (results_cell_row_tmp rfl _ _ (w.heap.size + 1) 36 _ (0, 0) _ rfl H1 Try.underlying36 rfl (by kernel_rfl) _ rfl) rfl
        (readR_some (q := ⟨x, 0, [false], [], p1, 0⟩) (aw := none) (cw := 0) (ab := some ⟨w.heap.size + 1 + 1, 0, none⟩) (cb := 1) HR2.out rfl ⟨Sl.none_, sl_of_row H2 rfl rfl (by simp)⟩ H3 (fun y hy => by rcases hy with hy | hy <;> first | (cases hy; done) | (injection hy with hy; subst hy; simp; omega)))
    · have t3 : ((p3.toNat : Int) != 0) = true := by have := n4 k2; simp; omega
      have HR2 : Hid (readK .bitW l = none) := Lib.hid (by rw [HR.out, if_neg (by simp [k1, k2])])
      clear k1 k2 HR n3 n4
      go_enter Try.func106, Try.ntmps106
      go_wp2_with fail
      refine (HY.out _ _).mono ?_
      rintro e w1 ⟨rfl, q, rfl⟩
      clear HY
      go_wp2_with fail
      exact bodyPost_ret (v := .tuple #[.agg zeroRC, .bool false]) (results_cell_row_tmp rfl _ _ (w.heap.size + 1) 36 _ (0, 0) _ rfl (rsetAll_heap (repBlock_two w _ _ q _ _ _ _ _ _ rfl)) Try.underlying36 rfl (by kernel_rfl) _ rfl) rfl (readR_none HR2.out (setAll_below (below_twoD w _ _ q) (by omega)))
set_option maxHeartbeats 2000000 in
theorem wordW_read (a : Option Addr) (n c : Nat) (l : List UInt8) (w : World) (hS : Sl b8 w w.heap.size a n c l) :
    Calls Try.prog 110 #[.agg #[], .slice a n c] w (ReadR (readK .wordW l) w) := by
  have hl := hS.len
  have hS2 := fun o1 o2 => hS.below (below_two w o1 o2) (Nat.le_refl _)
  by_cases h5 : n = 5
  case neg =>
    have HF : Hid (readK .wordW l = none) := Lib.hid (by simp only [readK]; rw [if_neg (by omega)])
    have hno := fun o1 o2 => pair_no _ a n c l _ (hS2 o1 o2) h5
    have HN := Lib.hid hno
    clear hno hS2 hS h5 hl
    go_enter Try.func110, Try.ntmps110
    go_wp2_with fail
    refine (HN.out _ _).mono ?_
    rintro e w1 ⟨rfl, rfl⟩
    go_wp2_with fail
    exact bodyPost_ret (v := .tuple #[.agg zeroRC, .bool false]) (results_cell_row_tmp rfl _ _ (w.heap.size + 1) 36 zeroRC (0, 0) _ rfl (at_one w _ _) Try.underlying36 rfl (by kernel_rfl) _ rfl) rfl (readR_none HF.out (below_two w _ _))
  subst h5
  obtain ⟨b, off, x, rfl, hb, hx, hc⟩ := hS.at_ (k := 0) (by omega)
  rw [Nat.add_zero] at hc
  have hx0 : l.getD 0 0 = x := getD_zero hx
  have hc2 := fun o1 o2 => ((below_two w o1 o2).cell (p := ⟨b, off, none⟩) hb).trans hc
  have HY := Lib.hid (fun o1 o2 => pair_yes _ _ c l _ (hS2 o1 o2))
  have HR : Hid (readK .wordW l = some ⟨x, 0, [], [at16 l 3], at16 l 1, 0⟩) := Lib.hid (by simp only [readK, hx0]; rw [if_pos hl])
  clear hS2 hS hl hx hx0 hc
  generalize at16 l 1 = p1 at *
  generalize at16 l 3 = p3 at *
  go_enter Try.func110, Try.ntmps110
  go_wp2_with fail
  refine (HY.out _ _).mono ?_
  rintro e w1 ⟨rfl, q, rfl⟩
  clear HY
  go_wp2_with fail
  have HS := set_fin w 116 29 q (b8 x) (.int .u8 0) (.slice none 0 0) (.slice (some ⟨w.heap.size + 1 + 1, 0, none⟩) 1 1) (b16 p1) (.int .u16 0) #[b16 p3]
  unfold setAll at HS
  obtain ⟨H1, H2, H3⟩ := HS
  exact bodyPost_ret (v := .tuple #[.agg #[b8 x, .int .u8 0, .slice none 0 0, .slice (some ⟨w.heap.size + 1 + 1, 0, none⟩) 1 1, b16 p1, .int .u16 0], .bool true]) (results_cell_row_tmp rfl _ _ (w.heap.size + 1) 36 _ (0, 0) _ rfl H1 Try.underlying36 rfl (by kernel_rfl) _ rfl) rfl
    (readR_some (q := ⟨x, 0, [], [p3], p1, 0⟩) (ab := none) (cb := 0) (aw := some ⟨w.heap.size + 1 + 1, 0, none⟩) (cw := 1) HR.out rfl ⟨sl_of_row H2 rfl rfl (by simp), Sl.none_⟩ H3 (fun y hy => by rcases hy with hy | hy <;> first | (cases hy; done) | (injection hy with hy; subst hy; simp; omega)))
set_option maxHeartbeats 2000000 in
theorem listW_read (M : Nat) (a : Option Addr) (n c : Nat) (l : List UInt8) (w : World) (hS : Sl b8 w w.heap.size a n c l) :
    Calls Try.prog 113 #[.agg #[.int .u16 (M : Int)], .slice a n c] w (ReadR (readK (.listW M) l) w) := by
  have hl := hS.len
  have hS2 := fun o1 o2 => hS.below (below_two w o1 o2) (Nat.le_refl _)
  by_cases h5 : n = 5
  case neg =>
    have HF : Hid (readK (.listW M) l = none) := Lib.hid (by simp only [readK]; rw [if_neg (by omega)])
    have hno := fun o1 o2 => pair_no _ a n c l _ (hS2 o1 o2) h5
    have HN := Lib.hid hno
    clear hno hS2 hS h5 hl
    go_enter Try.func113, Try.ntmps113
    go_wp2_with fail
    refine (HN.out _ _).mono ?_
    rintro e w1 ⟨rfl, rfl⟩
    go_wp2_with fail
    exact bodyPost_ret (v := .tuple #[.agg zeroRC, .bool false]) (results_cell_row_tmp rfl _ _ (w.heap.size + 1) 36 zeroRC (0, 0) _ rfl (at_one w _ _) Try.underlying36 rfl (by kernel_rfl) _ rfl) rfl (readR_none HF.out (below_two w _ _))
  subst h5
  obtain ⟨b, off, x, rfl, hb, hx, hc⟩ := hS.at_ (k := 0) (by omega)
  rw [Nat.add_zero] at hc
  have hx0 : l.getD 0 0 = x := getD_zero hx
  have hc2 := fun o1 o2 => ((below_two w o1 o2).cell (p := ⟨b, off, none⟩) hb).trans hc
  have HY := Lib.hid (fun o1 o2 => pair_yes _ _ c l _ (hS2 o1 o2))
  have HR : Hid (readK (.listW M) l = some ⟨x, 0, [], [], at16 l 1, at16 l 3⟩) := Lib.hid (by simp only [readK, hx0]; rw [if_pos hl])
  clear hS2 hS hl hx hx0 hc
  generalize at16 l 1 = p1 at *
  generalize at16 l 3 = p3 at *
  go_enter Try.func113, Try.ntmps113
  go_wp2_with fail
  refine (HY.out _ _).mono ?_
  rintro e w1 ⟨rfl, q, rfl⟩
  clear HY
  go_wp2_with fail
  exact bodyPost_ret (v := .tuple #[.agg #[b8 x, .int .u8 0, .slice none 0 0, .slice none 0 0, b16 p1, b16 p3], .bool true]) (results_cell_row_tmp rfl _ _ (w.heap.size + 1) 36 _ (0, 0) _ rfl (rsetAll_heap (repBlock_two w _ _ q _ _ _ _ _ _ rfl)) Try.underlying36 rfl (by kernel_rfl) _ rfl) rfl
    (readR_some (q := ⟨x, 0, [], [], p1, p3⟩) (ab := none) (cb := 0) (aw := none) (cw := 0) HR.out rfl ⟨Sl.none_, Sl.none_⟩ (setAll_below (below_twoD w _ _ q) (by omega)) (fun y hy => by rcases hy with hy | hy <;> cases hy))
end Go.Proofs.Ytamdpinfbadflaa.ReplyW
