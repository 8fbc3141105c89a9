/- The request that bytes would be of. -/
import Derived.Test.YtamdpinfbadflaaAskWrite
import Derived.Test.YtamdpinfbadflaaAskUnpack
import Derived.Test.YtamdpinfbadflaaAskNums
open Go.RowKit
namespace Go.Proofs.Ytamdpinfbadflaa.AskW
open AskM Mem

/-- The call answers a request whose lists lie in memory, and writes nothing that was there. -/
def Asks (a : Req) (w : World) (e : Ending) (w' : World) : Prop :=
  ∃ aw cw ab cb, e = .returned (askV a aw cw ab cb) ∧ AskAt w' w'.heap.size a aw cw ab cb ∧ Below w.heap.size w w' ∧ ∀ x : Addr, aw = some x ∨ ab = some x → w.heap.size ≤ x.block

/-- A cut at its begin, whatever its address has become. -/
theorem cut_from {w : World} {B n c : Nat} {a : Option Addr} {l : List UInt8} (h : Sl b8 w B a n c l) {k : Nat} (hk : k ≤ n) (z : Int) (hz : z = (k : Int)) :
    ∃ a1 c1, Sl b8 w B a1 (n - k) c1 (l.drop k) ∧ ∀ W : World, (Instr.slice 51 (.slice a n c) (some (.int .i64 z)) none none).run Try.prog W = .ok (.slice a1 (n - k) c1) W := by
  subst hz
  refine ⟨_, _, h.from_ hk, fun W => ?_⟩
  have h1 := h.nle
  have hu := Try.underlying51
  have hi : ∀ W : World, (sizeOf 5).run Try.prog W = .ok 1 W := fun W => by kernel_rfl
  have hb := fun W => run_sliceBound (P := Try.prog) (w := W) .i64 (k : Int) n .sliceB (by omega) (by omega)
  simp only [Int.toNat_natCast] at hb
  simp [Instr.slice, run_underlying hu, Instr.sliceBounds, hb, hi]
/-- While bytes are read: the row's box, the answer's cell that is still empty, and the request that is being filled in. -/
structure ReadW (w W : World) (F : Row) (f a m t ws bs : Value) : Prop where
  below : Below w.heap.size w W
  size : w.heap.size + 1 + 1 + 1 ≤ W.heap.size
  row : W.heap[w.heap.size]? = some (.cells #[.int .i64 (F.many : Int), .int .i64 (F.bits : Int), .int .i64 (F.words : Int), .bool F.to_] 85 (0, 0))
  out : W.heap[w.heap.size + 1]? = some (.cells #[.int .u8 0, .int .u16 0, .int .u16 0, .int .u16 0, .slice none 0 0, .slice none 0 0] 31 (0, 0))
  req : W.heap[w.heap.size + 1 + 1]? = some (.cells #[f, a, m, t, ws, bs] 31 (0, 0))
section
variable {w W W' : World} {F : Row} {f a m t ws bs v : Value}
theorem ReadW.start : ReadW w (((w.alloc (.cells #[.int .i64 (F.many : Int), .int .i64 (F.bits : Int), .int .i64 (F.words : Int), .bool F.to_] 85)).alloc (.cells #[.int .u8 0, .int .u16 0, .int .u16 0, .int .u16 0, .slice none 0 0, .slice none 0 0] 31)).alloc (.cells #[f, a, m, t, ws, bs] 31)) F f a m t ws bs := by
  refine ⟨(below_two w _ _).alloc (by simp; omega) _, by simp, ?_, ?_, ?_⟩
  · rw [Below.heap_alloc _ _ _ (by simp; omega), Below.heap_alloc _ _ _ (by simp)]
    exact heap_alloc_new w _
  · rw [Below.heap_alloc _ _ _ (by simp)]
    have := heap_alloc_new (w.alloc (.cells #[.int .i64 (F.many : Int), .int .i64 (F.bits : Int), .int .i64 (F.words : Int), .bool F.to_] 85)) (.cells #[.int .u8 0, .int .u16 0, .int .u16 0, .int .u16 0, .slice none 0 0, .slice none 0 0] 31)
    simpa using this
  · have := heap_alloc_new ((w.alloc (.cells #[.int .i64 (F.many : Int), .int .i64 (F.bits : Int), .int .i64 (F.words : Int), .bool F.to_] 85)).alloc (.cells #[.int .u8 0, .int .u16 0, .int .u16 0, .int .u16 0, .slice none 0 0, .slice none 0 0] 31)) (.cells #[f, a, m, t, ws, bs] 31)
    simpa using this
theorem ReadW.on (h : ReadW w W F f a m t ws bs) (hb : Below W.heap.size W W') : ReadW w W' F f a m t ws bs := by
  have h1 := h.size; have h2 := hb.size
  exact ⟨h.below.trans (hb.mono h.below.size), by omega, (hb.block _ (by omega)).trans h.row, (hb.block _ (by omega)).trans h.out, (hb.block _ (by omega)).trans h.req⟩
theorem ReadW.store (h : ReadW w W F f a m t ws bs) (i : Nat) (v : Value) {f' a' m' t' ws' bs' : Value} (hv : (#[f, a, m, t, ws, bs] : Array Value).setIfInBounds i v = #[f', a', m', t', ws', bs']) :
    ReadW w (W.setCell ⟨w.heap.size + 1 + 1, i, none⟩ v) F f' a' m' t' ws' bs' :=
  ⟨h.below.setCell (by show w.heap.size ≤ w.heap.size + 1 + 1; omega) _, by rw [World.size_setCell]; exact h.size, by rw [heap_setCell_other _ _ _ _ (by show w.heap.size ≠ w.heap.size + 1 + 1; omega)]; exact h.row,
    by rw [heap_setCell_other _ _ _ _ (by show w.heap.size + 1 ≠ w.heap.size + 1 + 1; omega)]; exact h.out, by rw [heap_setCell_same _ _ _ _ _ _ h.req, hv]⟩
theorem ReadW.c1 (h : ReadW w W F f a m t ws bs) (o : Nat) : W.cell? ⟨w.heap.size, o, none⟩ = (#[.int .i64 (F.many : Int), .int .i64 (F.bits : Int), .int .i64 (F.words : Int), .bool F.to_] : Array Value)[o]? := cell_of_row _ _ _ _ _ _ h.row
theorem ReadW.c2 (h : ReadW w W F f a m t ws bs) (o : Nat) : W.cell? ⟨w.heap.size + 1, o, none⟩ = (#[.int .u8 0, .int .u16 0, .int .u16 0, .int .u16 0, .slice none 0 0, .slice none 0 0] : Array Value)[o]? := cell_of_row _ _ _ _ _ _ h.out
theorem ReadW.c3 (h : ReadW w W F f a m t ws bs) (o : Nat) : W.cell? ⟨w.heap.size + 1 + 1, o, none⟩ = (#[f, a, m, t, ws, bs] : Array Value)[o]? := cell_of_row _ _ _ _ _ _ h.req
theorem ReadW.z2 (h : ReadW w W F f a m t ws bs) (o : Nat) : W.frozen? ⟨w.heap.size + 1, o, none⟩ = false := frozen_of_row _ _ _ _ _ h.out
theorem ReadW.z3 (h : ReadW w W F f a m t ws bs) (o : Nat) : W.frozen? ⟨w.heap.size + 1 + 1, o, none⟩ = false := frozen_of_row _ _ _ _ _ h.req
end
/-- A number taken of a slice that was there at w, while bytes are read. -/
theorem take_on {w W : World} {F : Row} {f b m t ws bs : Value} (HW : Hid (ReadW w W F f b m t ws bs)) {a : Option Addr} {n c : Nat} {l : List UInt8} (H : Hid (Sl b8 w w.heap.size a n c l)) :
    Calls Try.prog 71 #[.slice a n c] W fun e w' => ∃ (v : UInt16) (r : List UInt8) (a' : Option Addr) (n' c' : Nat), Hid (v = at16 l 0 ∧ r = l.drop 2 ∧ n' = n - 2) ∧ e = .returned (.tuple #[b16 v, .slice a' n' c']) ∧ Hid (Sl b8 w w.heap.size a' n' c' r) ∧ Hid (ReadW w w' F f b m t ws bs) := by
  have hs : Sl b8 w w.heap.size a n c l := H
  have hw : ReadW w W F f b m t ws bs := HW
  refine (take_any w.heap.size _ _ _ _ _ (hs.below hw.below (Nat.le_refl _))).mono ?_
  rintro e w' ⟨a', c', q, rfl, h1, rfl⟩
  have hl : (l.drop 2).length = n - 2 := by rw [List.length_drop, hs.len]
  rw [hl] at h1 ⊢
  exact ⟨_, _, a', _, c', ⟨rfl, rfl, rfl⟩, rfl, h1.keep fun p hp => (hw.below.cell hp).symm, hw.on (below_drawn (Below.refl _ _) q)⟩
theorem listed_on {w W : World} {F : Row} {f b m t ws bs : Value} (HW : Hid (ReadW w W F f b m t ws bs)) {x : Bool} (hx : listed F = x) :
    Calls Try.prog 63 #[rowV F] W fun e w' => e = .returned (.bool x) ∧ Hid (ReadW w w' F f b m t ws bs) := by
  have hw : ReadW w W F f b m t ws bs := HW
  refine (listed_any F W).mono ?_
  rintro e w' ⟨rfl, rfl⟩
  exact ⟨by rw [hx], hw.on ((Below.refl _ _).alloc (Nat.le_refl _) _)⟩
/-- The request is copied into the answer's cell. -/
def outW (w W : World) (f b m t ws bs : Value) : World :=
  ((((((W.setCell ⟨w.heap.size + 1, 0, none⟩ f).setCell ⟨w.heap.size + 1, 1, none⟩ b).setCell ⟨w.heap.size + 1, 2, none⟩ m).setCell ⟨w.heap.size + 1, 3, none⟩ t).setCell ⟨w.heap.size + 1, 4, none⟩ ws).setCell ⟨w.heap.size + 1, 5, none⟩ bs)
theorem out_heap {w W : World} {F : Row} {f b m t ws bs : Value} (h : ReadW w W F f b m t ws bs) : (outW w W f b m t ws bs).heap[w.heap.size + 1]? = some (.cells #[f, b, m, t, ws, bs] 31 (0, 0)) := by
  unfold outW
  have h0 := heap_setCell_same _ _ 0 _ _ f h.out
  have h1 := heap_setCell_same _ _ 1 _ _ b h0
  have h2 := heap_setCell_same _ _ 2 _ _ m h1
  have h3 := heap_setCell_same _ _ 3 _ _ t h2
  have h4 := heap_setCell_same _ _ 4 _ _ ws h3
  exact heap_setCell_same _ _ 5 _ _ bs h4
theorem out_below {w W : World} {F : Row} {f b m t ws bs : Value} (h : ReadW w W F f b m t ws bs) : Below w.heap.size w (outW w W f b m t ws bs) := by
  unfold outW
  have hle : w.heap.size ≤ w.heap.size + 1 := by omega
  exact (((((h.below.setCell hle _).setCell hle _).setCell hle _).setCell hle _).setCell hle _).setCell hle _
theorem out_sl {α : Type} {g : α → Value} {w W : World} {f b m t ws bs : Value} {n c : Nat} {a : Option Addr} {l : List α} (h : Sl g W W.heap.size a n c l) (hne : ∀ x : Addr, a = some x → x.block ≠ w.heap.size + 1) :
    Sl g (outW w W f b m t ws bs) (outW w W f b m t ws bs).heap.size a n c l := by
  have hs : (outW w W f b m t ws bs).heap.size = W.heap.size := by unfold outW; simp [World.size_setCell]
  rw [hs]
  unfold outW
  exact (((((h.set hne).set hne).set hne).set hne).set hne).set hne
theorem asks_mk {w W : World} {F : Row} {f b m t ws bs : Value} (h : ReadW w W F f b m t ws bs) {q0 q : Req} (hq : q0 = q) {aw ab : Option Addr} {cw cb : Nat} (hf : f = b8 q.fn) (hb : b = b16 q.at_) (hm : m = b16 q.many) (ht : t = b16 q.to_)
    (hws : ws = .slice aw q.words.length cw) (hbs : bs = .slice ab q.bits.length cb) (hw : Sl b16 W W.heap.size aw q.words.length cw q.words) (hl : Sl Value.bool W W.heap.size ab q.bits.length cb q.bits)
    (h1 : ∀ x : Addr, aw = some x → w.heap.size + 1 < x.block) (h2 : ∀ x : Addr, ab = some x → w.heap.size + 1 < x.block) : Asks q0 w (.returned (.agg #[f, b, m, t, ws, bs])) (outW w W f b m t ws bs) := by
  subst hq
  have h3 := out_below h
  refine ⟨aw, cw, ab, cb, by rw [hf, hb, hm, ht, hws, hbs], ⟨?_, ?_⟩, h3, fun x hx => ?_⟩
  · exact out_sl hw (fun x hx => by have := h1 x hx; omega)
  · exact out_sl hl (fun x hx => by have := h2 x hx; omega)
  · rcases hx with hx | hx
    · have := h1 x hx; omega
    · have := h2 x hx; omega
theorem lit_eq (v : UInt16) : ((v.toNat : Int) == 65280) = decide (v = 65280) := by
  rw [Bool.eq_iff_iff]
  simp only [beq_iff_eq, decide_eq_true_eq, ← UInt16.toNat_inj]
  show (v.toNat : Int) = 65280 ↔ v.toNat = 65280
  omega
theorem getD_zero {l : List UInt8} {x : UInt8} (h : l[0]? = some x) : l.getD 0 0 = x := by simp [List.getD, h]
set_option maxHeartbeats 2000000 in
theorem read_reads (a : Option Addr) (n c : Nat) (l : List UInt8) (w : World) (hS : Sl b8 w w.heap.size a n c l) (hn : n ≤ 253) (h1 : 1 ≤ n) :
    Calls Try.prog 59 #[rowV ⟨2000, 0, 0, false⟩, .slice a n c] w (Asks (readN ⟨2000, 0, 0, false⟩ l) w) := by
  obtain ⟨b, off, x, rfl, hbk, hx, hcell⟩ := hS.at_ (k := 0) (by omega)
  rw [Nat.add_zero] at hcell
  obtain ⟨a1, c1, hs1, hrun⟩ := cut_from hS (k := 1) h1 1 rfl
  have HX := Lib.hid hx
  have HS1 := Lib.hid hs1
  have HL := Lib.hid hS.len
  clear hS hx hs1
  go_enter Try.func59, Try.ntmps59
  go_wp2_with fail
  clear hrun
  refine (take_on (F := ⟨2000, 0, 0, false⟩) ReadW.start HS1).mono ?_
  rintro e w1 ⟨v1, r1, a2, n2, c2, HV1, rfl, HS2, HW1⟩

  have C1 := HW1.out.c1
  have C3 := HW1.out.c3
  have Z3 := HW1.out.z3
  go_wp2_with fail
  clear C1 C3 Z3
  refine (take_on (HW1.out.store 1 (b16 v1) rfl) HS2).mono ?_
  rintro e w2 ⟨v2, r2, a3, n3, c3, HV2, rfl, HS3, HW2⟩
  have C1 := HW2.out.c1
  have C3 := HW2.out.c3
  have Z3 := HW2.out.z3
  go_wp2_with fail
  clear C1 C3 Z3
  refine (listed_on (HW2.out.store 2 (b16 v2) rfl) (x := false) rfl).mono ?_
  rintro e w3 ⟨rfl, HW3⟩
  have C1 := HW3.out.c1
  have C2 := HW3.out.c2
  have C3 := HW3.out.c3
  have Z2 := HW3.out.z2
  have Z3 := HW3.out.z3
  go_wp2_with fail
  have HQ : Hid (readN ⟨2000, 0, 0, false⟩ l = ⟨x, v1, v2, 0, [], []⟩) := by
    obtain ⟨rfl, rfl, -⟩ := HV1.out
    obtain ⟨rfl, -, -⟩ := HV2.out
    unfold Hid readN
    rw [getD_zero HX.out]
    simp only [at16_drop]
    rfl
  exact bodyPost_ret (results_cell_row rfl _ _ (w.heap.size + 1) 31 _ (0, 0) _ rfl (out_heap HW3.out) Try.underlying31 rfl (by kernel_rfl)) rfl
    (asks_mk (aw := none) (cw := 0) (ab := none) (cb := 0) HW3.out HQ.out rfl rfl rfl rfl rfl rfl Sl.none_ Sl.none_ (fun x h => by cases h) (fun x h => by cases h))
set_option maxHeartbeats 2000000 in
theorem read_words (a : Option Addr) (n c : Nat) (l : List UInt8) (w : World) (hS : Sl b8 w w.heap.size a n c l) (hn : n ≤ 253) (h1 : 1 ≤ n) :
    Calls Try.prog 59 #[rowV ⟨125, 0, 0, false⟩, .slice a n c] w (Asks (readN ⟨125, 0, 0, false⟩ l) w) := by
  obtain ⟨b, off, x, rfl, hbk, hx, hcell⟩ := hS.at_ (k := 0) (by omega)
  rw [Nat.add_zero] at hcell
  obtain ⟨a1, c1, hs1, hrun⟩ := cut_from hS (k := 1) h1 1 rfl
  have HX := Lib.hid hx
  have HS1 := Lib.hid hs1
  have HL := Lib.hid hS.len
  clear hS hx hs1
  go_enter Try.func59, Try.ntmps59
  go_wp2_with fail
  clear hrun
  refine (take_on (F := ⟨125, 0, 0, false⟩) ReadW.start HS1).mono ?_
  rintro e w1 ⟨v1, r1, a2, n2, c2, HV1, rfl, HS2, HW1⟩

  have C1 := HW1.out.c1
  have C3 := HW1.out.c3
  have Z3 := HW1.out.z3
  go_wp2_with fail
  clear C1 C3 Z3
  refine (take_on (HW1.out.store 1 (b16 v1) rfl) HS2).mono ?_
  rintro e w2 ⟨v2, r2, a3, n3, c3, HV2, rfl, HS3, HW2⟩
  have C1 := HW2.out.c1
  have C3 := HW2.out.c3
  have Z3 := HW2.out.z3
  go_wp2_with fail
  clear C1 C3 Z3
  refine (listed_on (HW2.out.store 2 (b16 v2) rfl) (x := false) rfl).mono ?_
  rintro e w3 ⟨rfl, HW3⟩
  have C1 := HW3.out.c1
  have C2 := HW3.out.c2
  have C3 := HW3.out.c3
  have Z2 := HW3.out.z2
  have Z3 := HW3.out.z3
  go_wp2_with fail
  have HQ : Hid (readN ⟨125, 0, 0, false⟩ l = ⟨x, v1, v2, 0, [], []⟩) := by
    obtain ⟨rfl, rfl, -⟩ := HV1.out
    obtain ⟨rfl, -, -⟩ := HV2.out
    unfold Hid readN
    rw [getD_zero HX.out]
    simp only [at16_drop]
    rfl
  exact bodyPost_ret (results_cell_row rfl _ _ (w.heap.size + 1) 31 _ (0, 0) _ rfl (out_heap HW3.out) Try.underlying31 rfl (by kernel_rfl)) rfl
    (asks_mk (aw := none) (cw := 0) (ab := none) (cb := 0) HW3.out HQ.out rfl rfl rfl rfl rfl rfl Sl.none_ Sl.none_ (fun x h => by cases h) (fun x h => by cases h))
set_option maxHeartbeats 2000000 in
theorem read_bit (a : Option Addr) (n c : Nat) (l : List UInt8) (w : World) (hS : Sl b8 w w.heap.size a n c l) (hn : n ≤ 253) (h1 : 1 ≤ n) :
    Calls Try.prog 59 #[rowV ⟨0, 1, 0, false⟩, .slice a n c] w (Asks (readN ⟨0, 1, 0, false⟩ l) w) := by
  obtain ⟨b, off, x, rfl, hbk, hx, hcell⟩ := hS.at_ (k := 0) (by omega)
  rw [Nat.add_zero] at hcell
  obtain ⟨a1, c1, hs1, hrun⟩ := cut_from hS (k := 1) h1 1 rfl
  have HX := Lib.hid hx
  have HS1 := Lib.hid hs1
  have HL := Lib.hid hS.len
  clear hS hx hs1
  go_enter Try.func59, Try.ntmps59
  go_wp2_with fail
  clear hrun
  refine (take_on (F := ⟨0, 1, 0, false⟩) ReadW.start HS1).mono ?_
  rintro e w1 ⟨v1, r1, a2, n2, c2, HV1, rfl, HS2, HW1⟩
  have C1 := HW1.out.c1
  have C3 := HW1.out.c3
  have Z3 := HW1.out.z3
  go_wp2_with fail
  clear C1 C3 Z3
  refine (listed_on (HW1.out.store 1 (b16 v1) rfl) (x := false) rfl).mono ?_
  rintro e w2 ⟨rfl, HW2⟩
  have C1 := HW2.out.c1
  have C2 := HW2.out.c2
  have C3 := HW2.out.c3
  have Z2 := HW2.out.z2
  have Z3 := HW2.out.z3
  go_wp2_with fail
  refine (take_on HW2 HS2).mono ?_
  rintro e w3 ⟨v2, r2, a3, n3, c3, HV2, rfl, HS3, HW3⟩
  clear C1 C2 C3 Z2 Z3
  have C1 := HW3.out.c1
  have C2 := HW3.out.c2
  have C3 := HW3.out.c3
  have Z2 := HW3.out.z2
  have Z3 := HW3.out.z3
  have S3 := HW3.out.size
  have HA := fun o : Obj => Lib.hid (HW3.out.on ((Below.refl _ _).alloc (Nat.le_refl _) o))
  have A2 := fun o : Obj => (HA o).out.c2
  have A3 := fun o : Obj => (HA o).out.c3
  have ZA2 := fun o : Obj => (HA o).out.z2
  have ZA3 := fun o : Obj => (HA o).out.z3
  go_wp2_with fail
  clear C1 C2 C3 Z2 Z3 A2 A3 ZA2 ZA3
  have HW4 := Lib.hid ((HA (.cells #[.bool ((v2.toNat : Int) == 65280)] 4)).out.store 5 (.slice (some ⟨w3.heap.size, 0, none⟩) 1 1) rfl)
  have hs := Sl.new (f := Value.bool) w3 #[.bool ((v2.toNat : Int) == 65280)] 4 (0, 0) [decide (v2 = 65280)] 1 (by simp only [lit_eq]; rfl) rfl (by omega)
  have hs2 := hs.set (g := w.heap.size + 1 + 1) (i := 5) (v := .slice (some ⟨w3.heap.size, 0, none⟩) 1 1) (fun x hx => by injection hx with hx; subst hx; show w3.heap.size ≠ _; omega)
  have HQ : Hid (readN ⟨0, 1, 0, false⟩ l = ⟨x, v1, 0, 0, [], [decide (v2 = 65280)]⟩) := by
    have hV1 := HV1.out
    have hV2 := HV2.out
    obtain ⟨rfl, rfl, -⟩ := hV1
    obtain ⟨rfl, -, -⟩ := hV2
    unfold Hid readN
    rw [getD_zero HX.out]
    simp only [at16_drop, List.drop_drop]
    rfl
  exact bodyPost_ret (results_cell_row rfl _ _ (w.heap.size + 1) 31 _ (0, 0) _ rfl (out_heap HW4.out) Try.underlying31 rfl (by kernel_rfl)) rfl
    (asks_mk (aw := none) (cw := 0) HW4.out HQ.out rfl rfl rfl rfl rfl rfl Sl.none_ (hs2.more (by rw [World.size_setCell]; exact Nat.le_refl _)) (fun x h => by cases h) (fun x hx => by injection hx with hx; subst hx; show w.heap.size + 1 < w3.heap.size; omega))
set_option maxHeartbeats 2000000 in
theorem read_word (a : Option Addr) (n c : Nat) (l : List UInt8) (w : World) (hS : Sl b8 w w.heap.size a n c l) (hn : n ≤ 253) (h1 : 1 ≤ n) :
    Calls Try.prog 59 #[rowV ⟨0, 0, 1, false⟩, .slice a n c] w (Asks (readN ⟨0, 0, 1, false⟩ l) w) := by
  obtain ⟨b, off, x, rfl, hbk, hx, hcell⟩ := hS.at_ (k := 0) (by omega)
  rw [Nat.add_zero] at hcell
  obtain ⟨a1, c1, hs1, hrun⟩ := cut_from hS (k := 1) h1 1 rfl
  have HX := Lib.hid hx
  have HS1 := Lib.hid hs1
  have HL := Lib.hid hS.len
  clear hS hx hs1
  go_enter Try.func59, Try.ntmps59
  go_wp2_with fail
  clear hrun
  refine (take_on (F := ⟨0, 0, 1, false⟩) ReadW.start HS1).mono ?_
  rintro e w1 ⟨v1, r1, a2, n2, c2, HV1, rfl, HS2, HW1⟩
  have C1 := HW1.out.c1
  have C3 := HW1.out.c3
  have Z3 := HW1.out.z3
  go_wp2_with fail
  clear C1 C3 Z3
  refine (listed_on (HW1.out.store 1 (b16 v1) rfl) (x := false) rfl).mono ?_
  rintro e w2 ⟨rfl, HW2⟩
  have C1 := HW2.out.c1
  have C2 := HW2.out.c2
  have C3 := HW2.out.c3
  have Z2 := HW2.out.z2
  have Z3 := HW2.out.z3
  go_wp2_with fail
  have hlen : n2 ≤ 253 := by have h1 := HV1.out.2.2; omega
  refine (numbers_any _ _ _ _ _ ((HS2.out.below HW2.out.below (Nat.le_refl _)).more HW2.out.below.size) (by omega)).mono ?_
  rintro e w3 ⟨al, cl, rfl, hs, hb, hx⟩
  have S0 := HW2.out.size
  have HW3 := Lib.hid (HW2.out.on hb)
  generalize hNM : numsN (r1) = NM at *
  have HNM := Lib.hid hNM
  clear hNM
  have HE := Lib.hid (And.intro hs hx)
  clear C1 C2 C3 Z2 Z3 hs hb hx
  have C1 := HW3.out.c1
  have C2 := HW3.out.c2
  have C3 := HW3.out.c3
  have Z2 := HW3.out.z2
  have Z3 := HW3.out.z3
  have S3 := HW3.out.size
  go_wp2_with fail
  clear C1 C2 C3 Z2 Z3
  have HW9 := Lib.hid (HW3.out.store 4 (.slice al NM.length cl) rfl)
  have HQ : Hid (readN ⟨0, 0, 1, false⟩ l = ⟨x, v1, 0, 0, NM, []⟩) := by
    have hV1 := HV1.out
    obtain ⟨rfl, rfl, -⟩ := hV1
    have hE := HNM.out
    subst hE
    unfold Hid readN
    rw [getD_zero HX.out]
    simp only [at16_drop, List.drop_drop]
    rfl
  have hs2 := HE.out.1.set (g := w.heap.size + 1 + 1) (i := 4) (v := .slice al NM.length cl) (fun x hx => by have := HE.out.2 x hx; omega)
  exact bodyPost_ret (results_cell_row rfl _ _ (w.heap.size + 1) 31 _ (0, 0) _ rfl (out_heap HW9.out) Try.underlying31 rfl (by kernel_rfl)) rfl
    (asks_mk (ab := none) (cb := 0) HW9.out HQ.out rfl rfl rfl rfl rfl rfl (hs2.more (by rw [World.size_setCell]; exact Nat.le_refl _)) Sl.none_ (fun x hx => by have := HE.out.2 x hx; omega) (fun x h => by cases h))
set_option maxHeartbeats 2000000 in
theorem read_bits (a : Option Addr) (n c : Nat) (l : List UInt8) (w : World) (hS : Sl b8 w w.heap.size a n c l) (hn : n ≤ 253) (h1 : 1 ≤ n) :
    Calls Try.prog 59 #[rowV ⟨1968, 1968, 0, false⟩, .slice a n c] w (Asks (readN ⟨1968, 1968, 0, false⟩ l) w) := by
  obtain ⟨b, off, x, rfl, hbk, hx, hcell⟩ := hS.at_ (k := 0) (by omega)
  rw [Nat.add_zero] at hcell
  obtain ⟨a1, c1, hs1, hrun⟩ := cut_from hS (k := 1) h1 1 rfl
  have HX := Lib.hid hx
  have HS1 := Lib.hid hs1
  have HL := Lib.hid hS.len
  clear hS hx hs1
  go_enter Try.func59, Try.ntmps59
  go_wp2_with fail
  clear hrun
  refine (take_on (F := ⟨1968, 1968, 0, false⟩) ReadW.start HS1).mono ?_
  rintro e w1 ⟨v1, r1, a2, n2, c2, HV1, rfl, HS2, HW1⟩
  have C1 := HW1.out.c1
  have C3 := HW1.out.c3
  have Z3 := HW1.out.z3
  go_wp2_with fail
  clear C1 C3 Z3
  refine (take_on (HW1.out.store 1 (b16 v1) rfl) HS2).mono ?_
  rintro e w2 ⟨v2, r2, a3, n3, c3, HV2, rfl, HS3, HW2⟩
  have C1 := HW2.out.c1
  have C3 := HW2.out.c3
  have Z3 := HW2.out.z3
  go_wp2_with fail
  clear C1 C3 Z3
  refine (listed_on (HW2.out.store 2 (b16 v2) rfl) (x := true) rfl).mono ?_
  rintro e w3 ⟨rfl, HW3⟩
  have C1 := HW3.out.c1
  have C2 := HW3.out.c2
  have C3 := HW3.out.c3
  have Z2 := HW3.out.z2
  have Z3 := HW3.out.z3
  have hlen : n3 ≤ 253 := by have h1 := HV1.out.2.2; have h2 := HV2.out.2.2; omega
  rcases Nat.eq_zero_or_pos n3 with h0 | h0
  · subst h0
    obtain ⟨a6, c6, hs6, hrun⟩ := cut_from HS3.out (k := 0) (by omega) 0 rfl
    have hz : r2 = [] := List.eq_nil_of_length_eq_zero HS3.out.len
    have HS6 : Hid (Sl b8 w w.heap.size a6 0 c6 (r2.drop 1)) := by have := hs6; rw [hz] at this ⊢; exact this
    clear hs6 hz
    go_wp2_with fail
    clear hrun
    refine (Unpack_any _ _ _ _ _ ((HS6.out.below HW3.out.below (Nat.le_refl _)).more HW3.out.below.size) (by omega)).mono ?_
    rintro e w4 ⟨al, cl, rfl, hs, hb, hx⟩
    have S0 := HW3.out.size
    have HW4 := Lib.hid (HW3.out.on hb)
    have HE := Lib.hid (And.intro hs hx)
    have hcl := hs.nle
    clear C1 C2 C3 Z2 Z3 hs hb hx
    have C1 := HW4.out.c1
    have C2 := HW4.out.c2
    have C3 := HW4.out.c3
    have Z2 := HW4.out.z2
    have Z3 := HW4.out.z3
    have S3 := HW4.out.size
    have hm := v2.toNat_lt
    have hu := length_unpackN (r2.drop 1)
    have hr6 := HS6.out.len
    generalize hU : unpackN (r2.drop 1) = U at *
    have HU := Lib.hid hU
    have hul : U.length ≤ 3000 := by omega
    clear hU hu hr6
    by_cases hmin : v2.toNat ≤ U.length
    · have hsl : (U.take v2.toNat).length = v2.toNat := by rw [List.length_take]; omega
      have hs2 := HE.out.1.take_ hmin
      have HSL := Lib.hid hsl
      have HS2 := Lib.hid hs2
      clear hsl hs2
      go_wp2_with fail
      clear C1 C2 C3 Z2 Z3
      have HW9 := Lib.hid (HW4.out.store 5 (.slice al v2.toNat cl) rfl)
      have HQ : Hid (readN ⟨1968, 1968, 0, false⟩ l = ⟨x, v1, v2, 0, [], U.take v2.toNat⟩) := by
        have hV1 := HV1.out
        have hV2 := HV2.out
        obtain ⟨rfl, rfl, -⟩ := hV1
        obtain ⟨rfl, rfl, -⟩ := hV2
        have hE := HU.out
        subst hE
        unfold Hid readN
        rw [getD_zero HX.out]
        simp only [at16_drop, List.drop_drop]
        rfl
      have hs2 := HS2.out.set (g := w.heap.size + 1 + 1) (i := 5) (v := .slice al v2.toNat cl) (fun x hx => by have := HE.out.2 x hx; omega)
      exact bodyPost_ret (results_cell_row rfl _ _ (w.heap.size + 1) 31 _ (0, 0) _ rfl (out_heap HW9.out) Try.underlying31 rfl (by kernel_rfl)) rfl
        (asks_mk (aw := none) (cw := 0) HW9.out HQ.out rfl rfl rfl rfl rfl (by rw [HSL.out]) Sl.none_ (hs2.norm.more (by rw [World.size_setCell]; exact Nat.le_refl _)) (fun x h => by cases h) (fun x hx => by have := HE.out.2 x hx; omega))
    · have hsl : (U.take v2.toNat).length = U.length := by rw [List.length_take]; omega
      have hs2 : Sl Value.bool w4 w4.heap.size al U.length cl (U.take v2.toNat) := by have := HE.out.1; rw [List.take_of_length_le (by omega)]; exact this
      have HSL := Lib.hid hsl
      have HS2 := Lib.hid hs2
      clear hsl hs2
      go_wp2_with fail
      clear C1 C2 C3 Z2 Z3
      have HW9 := Lib.hid (HW4.out.store 5 (.slice al U.length cl) rfl)
      have HQ : Hid (readN ⟨1968, 1968, 0, false⟩ l = ⟨x, v1, v2, 0, [], U.take v2.toNat⟩) := by
        have hV1 := HV1.out
        have hV2 := HV2.out
        obtain ⟨rfl, rfl, -⟩ := hV1
        obtain ⟨rfl, rfl, -⟩ := hV2
        have hE := HU.out
        subst hE
        unfold Hid readN
        rw [getD_zero HX.out]
        simp only [at16_drop, List.drop_drop]
        rfl
      have hs2 := HS2.out.set (g := w.heap.size + 1 + 1) (i := 5) (v := .slice al U.length cl) (fun x hx => by have := HE.out.2 x hx; omega)
      exact bodyPost_ret (results_cell_row rfl _ _ (w.heap.size + 1) 31 _ (0, 0) _ rfl (out_heap HW9.out) Try.underlying31 rfl (by kernel_rfl)) rfl
        (asks_mk (aw := none) (cw := 0) HW9.out HQ.out rfl rfl rfl rfl rfl (by rw [HSL.out]) Sl.none_ (hs2.norm.more (by rw [World.size_setCell]; exact Nat.le_refl _)) (fun x h => by cases h) (fun x hx => by have := HE.out.2 x hx; omega))
  · have h0' : decide (1 ≤ n3) = true := by simp; omega
    obtain ⟨a6, c6, hs6, hrun⟩ := cut_from HS3.out (k := 1) (by omega) 1 rfl
    have HS6 := Lib.hid hs6
    clear hs6
    go_wp2_with fail
    clear hrun
    refine (Unpack_any _ _ _ _ _ ((HS6.out.below HW3.out.below (Nat.le_refl _)).more HW3.out.below.size) (by omega)).mono ?_
    rintro e w4 ⟨al, cl, rfl, hs, hb, hx⟩
    have S0 := HW3.out.size
    have HW4 := Lib.hid (HW3.out.on hb)
    have HE := Lib.hid (And.intro hs hx)
    have hcl := hs.nle
    clear C1 C2 C3 Z2 Z3 hs hb hx
    have C1 := HW4.out.c1
    have C2 := HW4.out.c2
    have C3 := HW4.out.c3
    have Z2 := HW4.out.z2
    have Z3 := HW4.out.z3
    have S3 := HW4.out.size
    have hm := v2.toNat_lt
    have hu := length_unpackN (r2.drop 1)
    have hr6 := HS6.out.len
    generalize hU : unpackN (r2.drop 1) = U at *
    have HU := Lib.hid hU
    have hul : U.length ≤ 3000 := by omega
    clear hU hu hr6
    by_cases hmin : v2.toNat ≤ U.length
    · have hsl : (U.take v2.toNat).length = v2.toNat := by rw [List.length_take]; omega
      have hs2 := HE.out.1.take_ hmin
      have HSL := Lib.hid hsl
      have HS2 := Lib.hid hs2
      clear hsl hs2
      go_wp2_with fail
      clear C1 C2 C3 Z2 Z3
      have HW9 := Lib.hid (HW4.out.store 5 (.slice al v2.toNat cl) rfl)
      have HQ : Hid (readN ⟨1968, 1968, 0, false⟩ l = ⟨x, v1, v2, 0, [], U.take v2.toNat⟩) := by
        have hV1 := HV1.out
        have hV2 := HV2.out
        obtain ⟨rfl, rfl, -⟩ := hV1
        obtain ⟨rfl, rfl, -⟩ := hV2
        have hE := HU.out
        subst hE
        unfold Hid readN
        rw [getD_zero HX.out]
        simp only [at16_drop, List.drop_drop]
        rfl
      have hs2 := HS2.out.set (g := w.heap.size + 1 + 1) (i := 5) (v := .slice al v2.toNat cl) (fun x hx => by have := HE.out.2 x hx; omega)
      exact bodyPost_ret (results_cell_row rfl _ _ (w.heap.size + 1) 31 _ (0, 0) _ rfl (out_heap HW9.out) Try.underlying31 rfl (by kernel_rfl)) rfl
        (asks_mk (aw := none) (cw := 0) HW9.out HQ.out rfl rfl rfl rfl rfl (by rw [HSL.out]) Sl.none_ (hs2.norm.more (by rw [World.size_setCell]; exact Nat.le_refl _)) (fun x h => by cases h) (fun x hx => by have := HE.out.2 x hx; omega))
    · have hsl : (U.take v2.toNat).length = U.length := by rw [List.length_take]; omega
      have hs2 : Sl Value.bool w4 w4.heap.size al U.length cl (U.take v2.toNat) := by have := HE.out.1; rw [List.take_of_length_le (by omega)]; exact this
      have HSL := Lib.hid hsl
      have HS2 := Lib.hid hs2
      clear hsl hs2
      go_wp2_with fail
      clear C1 C2 C3 Z2 Z3
      have HW9 := Lib.hid (HW4.out.store 5 (.slice al U.length cl) rfl)
      have HQ : Hid (readN ⟨1968, 1968, 0, false⟩ l = ⟨x, v1, v2, 0, [], U.take v2.toNat⟩) := by
        have hV1 := HV1.out
        have hV2 := HV2.out
        obtain ⟨rfl, rfl, -⟩ := hV1
        obtain ⟨rfl, rfl, -⟩ := hV2
        have hE := HU.out
        subst hE
        unfold Hid readN
        rw [getD_zero HX.out]
        simp only [at16_drop, List.drop_drop]
        rfl
      have hs2 := HS2.out.set (g := w.heap.size + 1 + 1) (i := 5) (v := .slice al U.length cl) (fun x hx => by have := HE.out.2 x hx; omega)
      exact bodyPost_ret (results_cell_row rfl _ _ (w.heap.size + 1) 31 _ (0, 0) _ rfl (out_heap HW9.out) Try.underlying31 rfl (by kernel_rfl)) rfl
        (asks_mk (aw := none) (cw := 0) HW9.out HQ.out rfl rfl rfl rfl rfl (by rw [HSL.out]) Sl.none_ (hs2.norm.more (by rw [World.size_setCell]; exact Nat.le_refl _)) (fun x h => by cases h) (fun x hx => by have := HE.out.2 x hx; omega))
set_option maxHeartbeats 2000000 in
theorem read_list (a : Option Addr) (n c : Nat) (l : List UInt8) (w : World) (hS : Sl b8 w w.heap.size a n c l) (hn : n ≤ 253) (h1 : 1 ≤ n) :
    Calls Try.prog 59 #[rowV ⟨123, 0, 123, false⟩, .slice a n c] w (Asks (readN ⟨123, 0, 123, false⟩ l) w) := by
  obtain ⟨b, off, x, rfl, hbk, hx, hcell⟩ := hS.at_ (k := 0) (by omega)
  rw [Nat.add_zero] at hcell
  obtain ⟨a1, c1, hs1, hrun⟩ := cut_from hS (k := 1) h1 1 rfl
  have HX := Lib.hid hx
  have HS1 := Lib.hid hs1
  have HL := Lib.hid hS.len
  clear hS hx hs1
  go_enter Try.func59, Try.ntmps59
  go_wp2_with fail
  clear hrun
  refine (take_on (F := ⟨123, 0, 123, false⟩) ReadW.start HS1).mono ?_
  rintro e w1 ⟨v1, r1, a2, n2, c2, HV1, rfl, HS2, HW1⟩
  have C1 := HW1.out.c1
  have C3 := HW1.out.c3
  have Z3 := HW1.out.z3
  go_wp2_with fail
  clear C1 C3 Z3
  refine (take_on (HW1.out.store 1 (b16 v1) rfl) HS2).mono ?_
  rintro e w2 ⟨v2, r2, a3, n3, c3, HV2, rfl, HS3, HW2⟩
  have C1 := HW2.out.c1
  have C3 := HW2.out.c3
  have Z3 := HW2.out.z3
  go_wp2_with fail
  clear C1 C3 Z3
  refine (listed_on (HW2.out.store 2 (b16 v2) rfl) (x := true) rfl).mono ?_
  rintro e w3 ⟨rfl, HW3⟩
  have C1 := HW3.out.c1
  have C2 := HW3.out.c2
  have C3 := HW3.out.c3
  have Z2 := HW3.out.z2
  have Z3 := HW3.out.z3
  have hlen : n3 ≤ 253 := by have h1 := HV1.out.2.2; have h2 := HV2.out.2.2; omega
  rcases Nat.eq_zero_or_pos n3 with h0 | h0
  · subst h0
    obtain ⟨a6, c6, hs6, hrun⟩ := cut_from HS3.out (k := 0) (by omega) 0 rfl
    have hz : r2 = [] := List.eq_nil_of_length_eq_zero HS3.out.len
    have HS6 : Hid (Sl b8 w w.heap.size a6 0 c6 (r2.drop 1)) := by have := hs6; rw [hz] at this ⊢; exact this
    clear hs6 hz
    go_wp2_with fail
    clear hrun
    refine (numbers_any _ _ _ _ _ ((HS6.out.below HW3.out.below (Nat.le_refl _)).more HW3.out.below.size) (by omega)).mono ?_
    rintro e w4 ⟨al, cl, rfl, hs, hb, hx⟩
    have S0 := HW3.out.size
    have HW4 := Lib.hid (HW3.out.on hb)
    generalize hNM : numsN (r2.drop 1) = NM at *
    have HNM := Lib.hid hNM
    clear hNM
    have HE := Lib.hid (And.intro hs hx)
    clear C1 C2 C3 Z2 Z3 hs hb hx
    have C1 := HW4.out.c1
    have C2 := HW4.out.c2
    have C3 := HW4.out.c3
    have Z2 := HW4.out.z2
    have Z3 := HW4.out.z3
    have S3 := HW4.out.size
    go_wp2_with fail
    clear C1 C2 C3 Z2 Z3
    have HW9 := Lib.hid (HW4.out.store 4 (.slice al NM.length cl) rfl)
    have HQ : Hid (readN ⟨123, 0, 123, false⟩ l = ⟨x, v1, v2, 0, NM, []⟩) := by
      have hV1 := HV1.out
      have hV2 := HV2.out
      obtain ⟨rfl, rfl, -⟩ := hV1
      obtain ⟨rfl, rfl, -⟩ := hV2
      have hE := HNM.out
      subst hE
      unfold Hid readN
      rw [getD_zero HX.out]
      simp only [at16_drop, List.drop_drop]
      rfl
    have hs2 := HE.out.1.set (g := w.heap.size + 1 + 1) (i := 4) (v := .slice al NM.length cl) (fun x hx => by have := HE.out.2 x hx; omega)
    exact bodyPost_ret (results_cell_row rfl _ _ (w.heap.size + 1) 31 _ (0, 0) _ rfl (out_heap HW9.out) Try.underlying31 rfl (by kernel_rfl)) rfl
      (asks_mk (ab := none) (cb := 0) HW9.out HQ.out rfl rfl rfl rfl rfl rfl (hs2.more (by rw [World.size_setCell]; exact Nat.le_refl _)) Sl.none_ (fun x hx => by have := HE.out.2 x hx; omega) (fun x h => by cases h))
  · have h0' : decide (1 ≤ n3) = true := by simp; omega
    obtain ⟨a6, c6, hs6, hrun⟩ := cut_from HS3.out (k := 1) (by omega) 1 rfl
    have HS6 := Lib.hid hs6
    clear hs6
    go_wp2_with fail
    clear hrun
    refine (numbers_any _ _ _ _ _ ((HS6.out.below HW3.out.below (Nat.le_refl _)).more HW3.out.below.size) (by omega)).mono ?_
    rintro e w4 ⟨al, cl, rfl, hs, hb, hx⟩
    have S0 := HW3.out.size
    have HW4 := Lib.hid (HW3.out.on hb)
    generalize hNM : numsN (r2.drop 1) = NM at *
    have HNM := Lib.hid hNM
    clear hNM
    have HE := Lib.hid (And.intro hs hx)
    clear C1 C2 C3 Z2 Z3 hs hb hx
    have C1 := HW4.out.c1
    have C2 := HW4.out.c2
    have C3 := HW4.out.c3
    have Z2 := HW4.out.z2
    have Z3 := HW4.out.z3
    have S3 := HW4.out.size
    go_wp2_with fail
    clear C1 C2 C3 Z2 Z3
    have HW9 := Lib.hid (HW4.out.store 4 (.slice al NM.length cl) rfl)
    have HQ : Hid (readN ⟨123, 0, 123, false⟩ l = ⟨x, v1, v2, 0, NM, []⟩) := by
      have hV1 := HV1.out
      have hV2 := HV2.out
      obtain ⟨rfl, rfl, -⟩ := hV1
      obtain ⟨rfl, rfl, -⟩ := hV2
      have hE := HNM.out
      subst hE
      unfold Hid readN
      rw [getD_zero HX.out]
      simp only [at16_drop, List.drop_drop]
      rfl
    have hs2 := HE.out.1.set (g := w.heap.size + 1 + 1) (i := 4) (v := .slice al NM.length cl) (fun x hx => by have := HE.out.2 x hx; omega)
    exact bodyPost_ret (results_cell_row rfl _ _ (w.heap.size + 1) 31 _ (0, 0) _ rfl (out_heap HW9.out) Try.underlying31 rfl (by kernel_rfl)) rfl
      (asks_mk (ab := none) (cb := 0) HW9.out HQ.out rfl rfl rfl rfl rfl rfl (hs2.more (by rw [World.size_setCell]; exact Nat.le_refl _)) Sl.none_ (fun x hx => by have := HE.out.2 x hx; omega) (fun x h => by cases h))
set_option maxHeartbeats 2000000 in
theorem read_swap (a : Option Addr) (n c : Nat) (l : List UInt8) (w : World) (hS : Sl b8 w w.heap.size a n c l) (hn : n ≤ 253) (h1 : 1 ≤ n) :
    Calls Try.prog 59 #[rowV ⟨125, 0, 121, true⟩, .slice a n c] w (Asks (readN ⟨125, 0, 121, true⟩ l) w) := by
  obtain ⟨b, off, x, rfl, hbk, hx, hcell⟩ := hS.at_ (k := 0) (by omega)
  rw [Nat.add_zero] at hcell
  obtain ⟨a1, c1, hs1, hrun⟩ := cut_from hS (k := 1) h1 1 rfl
  have HX := Lib.hid hx
  have HS1 := Lib.hid hs1
  have HL := Lib.hid hS.len
  clear hS hx hs1
  go_enter Try.func59, Try.ntmps59
  go_wp2_with fail
  clear hrun
  refine (take_on (F := ⟨125, 0, 121, true⟩) ReadW.start HS1).mono ?_
  rintro e w1 ⟨v1, r1, a2, n2, c2, HV1, rfl, HS2, HW1⟩
  have C1 := HW1.out.c1
  have C3 := HW1.out.c3
  have Z3 := HW1.out.z3
  go_wp2_with fail
  clear C1 C3 Z3
  refine (take_on (HW1.out.store 1 (b16 v1) rfl) HS2).mono ?_
  rintro e w2 ⟨v2, r2, a3, n3, c3, HV2, rfl, HS3, HW2⟩
  have C1 := HW2.out.c1
  have C3 := HW2.out.c3
  have Z3 := HW2.out.z3
  go_wp2_with fail
  clear C1 C3 Z3
  refine (take_on (HW2.out.store 2 (b16 v2) rfl) HS3).mono ?_
  rintro e w3 ⟨v3, r3, a4, n4, c4, HV3, rfl, HS4, HW3⟩
  have C1 := HW3.out.c1
  have C3 := HW3.out.c3
  have Z3 := HW3.out.z3
  go_wp2_with fail
  clear C1 C3 Z3
  refine (take_on (HW3.out.store 3 (b16 v3) rfl) HS4).mono ?_
  rintro e w4 ⟨v4, r4, a5, n5, c5, HV4, rfl, HS5, HW4⟩
  have C1 := HW4.out.c1
  have C3 := HW4.out.c3
  have Z3 := HW4.out.z3
  go_wp2_with fail
  clear C1 C3 Z3
  refine (listed_on HW4 (x := true) rfl).mono ?_
  rintro e w5 ⟨rfl, HW5⟩
  have C1 := HW5.out.c1
  have C2 := HW5.out.c2
  have C3 := HW5.out.c3
  have Z2 := HW5.out.z2
  have Z3 := HW5.out.z3
  have hlen : n5 ≤ 253 := by have h1 := HV1.out.2.2; have h2 := HV2.out.2.2; have h3 := HV3.out.2.2; have h4 := HV4.out.2.2; omega
  rcases Nat.eq_zero_or_pos n5 with h0 | h0
  · subst h0
    obtain ⟨a6, c6, hs6, hrun⟩ := cut_from HS5.out (k := 0) (by omega) 0 rfl
    have hz : r4 = [] := List.eq_nil_of_length_eq_zero HS5.out.len
    have HS6 : Hid (Sl b8 w w.heap.size a6 0 c6 (r4.drop 1)) := by have := hs6; rw [hz] at this ⊢; exact this
    clear hs6 hz
    go_wp2_with fail
    clear hrun
    refine (numbers_any _ _ _ _ _ ((HS6.out.below HW5.out.below (Nat.le_refl _)).more HW5.out.below.size) (by omega)).mono ?_
    rintro e w6 ⟨al, cl, rfl, hs, hb, hx⟩
    have S0 := HW5.out.size
    have HW6 := Lib.hid (HW5.out.on hb)
    generalize hNM : numsN (r4.drop 1) = NM at *
    have HNM := Lib.hid hNM
    clear hNM
    have HE := Lib.hid (And.intro hs hx)
    clear C1 C2 C3 Z2 Z3 hs hb hx
    have C1 := HW6.out.c1
    have C2 := HW6.out.c2
    have C3 := HW6.out.c3
    have Z2 := HW6.out.z2
    have Z3 := HW6.out.z3
    have S3 := HW6.out.size
    go_wp2_with fail
    clear C1 C2 C3 Z2 Z3
    have HW9 := Lib.hid (HW6.out.store 4 (.slice al NM.length cl) rfl)
    have HQ : Hid (readN ⟨125, 0, 121, true⟩ l = ⟨x, v1, v2, v3, NM, []⟩) := by
      have hV1 := HV1.out
      have hV2 := HV2.out
      have hV3 := HV3.out
      have hV4 := HV4.out
      obtain ⟨rfl, rfl, -⟩ := hV1
      obtain ⟨rfl, rfl, -⟩ := hV2
      obtain ⟨rfl, rfl, -⟩ := hV3
      obtain ⟨-, rfl, -⟩ := hV4
      have hE := HNM.out
      subst hE
      unfold Hid readN
      rw [getD_zero HX.out]
      simp only [at16_drop, List.drop_drop]
      rfl
    have hs2 := HE.out.1.set (g := w.heap.size + 1 + 1) (i := 4) (v := .slice al NM.length cl) (fun x hx => by have := HE.out.2 x hx; omega)
    exact bodyPost_ret (results_cell_row rfl _ _ (w.heap.size + 1) 31 _ (0, 0) _ rfl (out_heap HW9.out) Try.underlying31 rfl (by kernel_rfl)) rfl
      (asks_mk (ab := none) (cb := 0) HW9.out HQ.out rfl rfl rfl rfl rfl rfl (hs2.more (by rw [World.size_setCell]; exact Nat.le_refl _)) Sl.none_ (fun x hx => by have := HE.out.2 x hx; omega) (fun x h => by cases h))
  · have h0' : decide (1 ≤ n5) = true := by simp; omega
    obtain ⟨a6, c6, hs6, hrun⟩ := cut_from HS5.out (k := 1) (by omega) 1 rfl
    have HS6 := Lib.hid hs6
    clear hs6
    go_wp2_with fail
    clear hrun
    refine (numbers_any _ _ _ _ _ ((HS6.out.below HW5.out.below (Nat.le_refl _)).more HW5.out.below.size) (by omega)).mono ?_
    rintro e w6 ⟨al, cl, rfl, hs, hb, hx⟩
    have S0 := HW5.out.size
    have HW6 := Lib.hid (HW5.out.on hb)
    generalize hNM : numsN (r4.drop 1) = NM at *
    have HNM := Lib.hid hNM
    clear hNM
    have HE := Lib.hid (And.intro hs hx)
    clear C1 C2 C3 Z2 Z3 hs hb hx
    have C1 := HW6.out.c1
    have C2 := HW6.out.c2
    have C3 := HW6.out.c3
    have Z2 := HW6.out.z2
    have Z3 := HW6.out.z3
    have S3 := HW6.out.size
    go_wp2_with fail
    clear C1 C2 C3 Z2 Z3
    have HW9 := Lib.hid (HW6.out.store 4 (.slice al NM.length cl) rfl)
    have HQ : Hid (readN ⟨125, 0, 121, true⟩ l = ⟨x, v1, v2, v3, NM, []⟩) := by
      have hV1 := HV1.out
      have hV2 := HV2.out
      have hV3 := HV3.out
      have hV4 := HV4.out
      obtain ⟨rfl, rfl, -⟩ := hV1
      obtain ⟨rfl, rfl, -⟩ := hV2
      obtain ⟨rfl, rfl, -⟩ := hV3
      obtain ⟨-, rfl, -⟩ := hV4
      have hE := HNM.out
      subst hE
      unfold Hid readN
      rw [getD_zero HX.out]
      simp only [at16_drop, List.drop_drop]
      rfl
    have hs2 := HE.out.1.set (g := w.heap.size + 1 + 1) (i := 4) (v := .slice al NM.length cl) (fun x hx => by have := HE.out.2 x hx; omega)
    exact bodyPost_ret (results_cell_row rfl _ _ (w.heap.size + 1) 31 _ (0, 0) _ rfl (out_heap HW9.out) Try.underlying31 rfl (by kernel_rfl)) rfl
      (asks_mk (ab := none) (cb := 0) HW9.out HQ.out rfl rfl rfl rfl rfl rfl (hs2.more (by rw [World.size_setCell]; exact Nat.le_refl _)) Sl.none_ (fun x hx => by have := HE.out.2 x hx; omega) (fun x h => by cases h))
end Go.Proofs.Ytamdpinfbadflaa.AskW
