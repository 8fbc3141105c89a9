/- Small parts of mbap: numbers of two bytes, what is begun, bytes cloned, numbers put, as contracts. -/
import Derived.Test.YteekdginloljjaaChecked
import Derived.Test.YteekdginloljjaaMem
import Derived.Test.YteekdginloljjaaGrow
import Derived.Test.YteekdginloljjaaMbReq
import Derived.Deep.QuietTactic
import Derived.BigQuiet
import Derived.Outline
import Derived.Laws.BitsAllLaws
import Derived.Laws.Tables
open Go.RowKit
namespace Go.Proofs.Yteekdginloljjaa.MbW
open MbM Mem

theorem ret_bool {a b : Bool} (h : a = b) : Ending.returned (.bool a) = Ending.returned (.bool b) := by rw [h]
theorem len_le {α : Type} {f : α → Value} {w : World} {B n c : Nat} {a : Option Addr} {l : List α} (hl : Sl f w B a n c l) : n ≤ 9223372036854775807 := by
  have h1 := hl.nle; have h2 := hl.cle; unfold maxLen at h2; omega
theorem info8 : (Try.prog.info? 5).map (fun i => (i.zero, i.size, i.bytes)) = some (some (.int .u8 0), 1, 1) := by kernel_rfl
theorem b8_one : ∀ x : UInt8, (b8 x).oneCell' = true := fun _ => rfl
theorem or_num (x y : UInt8) : bits .or .u16 ((x.toNat : Int) * 256) (y.toNat : Int) = ((x.toNat * 256 + y.toNat : Nat) : Int) := by
  have hx := x.toNat_lt
  have hy := y.toNat_lt
  have h := u16_or_nat (256 * x.toNat) y.toNat (by omega) (by omega)
  rw [nat_join 8 (256 * x.toNat) y.toNat (by omega) (by omega)] at h
  rw [show (x.toNat : Int) * 256 = ((256 * x.toNat : Nat) : Int) by omega, show x.toNat * 256 + y.toNat = 256 * x.toNat + y.toNat by omega]
  exact h
/-- A number, and nothing that is told of memory is changed. -/
def NumIs (n : Nat) (w : World) (e : Ending) (w' : World) : Prop := ∃ k, e = .returned (.int .u16 (n : Int)) ∧ w' = w.drewN k

theorem number_any (x y : UInt8) (b off n c : Nat) (w : World) (hn : 2 ≤ n) (hc : n ≤ 9223372036854775807) (h0 : w.cell? ⟨b, off, none⟩ = some (b8 x)) (h1 : w.cell? ⟨b, off + 1, none⟩ = some (b8 y)) :
    Calls Try.prog 24 #[.slice (some ⟨b, off, none⟩) n c] w (NumIs (x.toNat * 256 + y.toNat) w) := by
  have hx := x.toNat_lt
  have hy := y.toNat_lt
  have HV := Lib.hid (or_num x y)
  go_enter Try.func24, Try.ntmps24
  go_wp2_with fail
  go_quiet (fail)
  go_wp2_with fail
  go_ret
  exact ⟨_, by rw [← HV.out]; rfl, rfl⟩

theorem length_any (x y : UInt8) (b off n c : Nat) (w : World) (hn : 6 ≤ n) (hc : n ≤ c) (hm : c ≤ 9223372036854775807) (h0 : w.cell? ⟨b, off + 4, none⟩ = some (b8 x)) (h1 : w.cell? ⟨b, off + 4 + 1, none⟩ = some (b8 y)) :
    Calls Try.prog 23 #[.slice (some ⟨b, off, none⟩) n c] w (NumIs (x.toNat * 256 + y.toNat) w) := by
  have h6 : ¬ c = 4 := by omega
  go_enter Try.func23, Try.ntmps23
  go_wp2_with fail
  refine (number_any x y b (off + 4) (n - 4) (c - 4) w (by omega) (by omega) h0 h1).mono ?_
  rintro e w1 ⟨k, rfl, rfl⟩
  go_wp2_with fail
  go_ret
  exact ⟨k, rfl, rfl⟩

/-- The six bytes of a header, those that are missing taken from a right one. -/
def six (b : List UInt8) : List UInt8 := (List.range 6).map fun i => UInt8.ofNat (hd b i)
theorem six_splice (b : List UInt8) : splice (([0, 0, 0, 0, 0, 2] : List UInt8).map b8) 0 ((b.take 6).map b8) = (six b).map b8 := by
  have e : ∀ i, i < b.length → UInt8.ofNat (hd b i) = b.getD i 0 := fun i hi => by rw [hd_getD hi]; simp
  unfold splice six
  match b with
  | [] => rfl
  | [_] => simp [List.range, List.range.loop, hd]
  | [_, _] => simp [List.range, List.range.loop, hd]
  | [_, _, _] => simp [List.range, List.range.loop, hd]
  | [_, _, _, _] => simp [List.range, List.range.loop, hd]
  | [_, _, _, _, _] => simp [List.range, List.range.loop, hd]
  | _ :: _ :: _ :: _ :: _ :: _ :: _ => simp [List.range, List.range.loop, hd]

theorem six_cells {w : World} {g : Nat} {T : TypeId} {b : List UInt8} (h : w.heap[g]? = some (.cells ((six b).map b8).toArray T (0, 0))) : ∀ i, i < 6 → w.cell? ⟨g, i, none⟩ = some (b8 (UInt8.ofNat (hd b i))) := fun i hi => by
  rw [cell_of_row _ _ i _ _ _ h]
  simp [six, hi]
theorem hd_nat (b : List UInt8) (i : Nat) : (UInt8.ofNat (hd b i)).toNat = hd b i := by
  have := hd_lt b i
  simp; omega

set_option maxRecDepth 100000 in
set_option maxHeartbeats 1000000 in
theorem begun_any (a : Option Addr) (n c : Nat) (b : List UInt8) (w : World) (hl : Sl b8 w w.heap.size a n c b) :
    Calls Try.prog 22 #[.slice a n c] w (Says (.bool (begunB b)) w) := by
  have hlen := hl.len
  have hn := len_le hl
  have hsz : (Try.prog.info? 5).map (·.size) = some 1 := by kernel_rfl
  have HC1 : Hid (((b.take 6).map b8).length = Nat.min n 6) := by show _ = _; rw [List.length_map, List.length_take, hlen]; exact Nat.min_comm _ _
  have HC2 : Hid (∀ o : Obj, 0 < ((b.take 6).map b8).length → some (⟨w.heap.size, 0, none⟩ : Addr) = some ⟨w.heap.size, 0, none⟩ ∧ ∃ ad, a = some ad ∧ ∀ j v, ((b.take 6).map b8)[j]? = some v → (w.alloc o).cell? (ad.add j) = some v) := by
    intro o h0
    rw [List.length_map, List.length_take, hlen] at h0
    obtain ⟨bb, off, rfl, hb, hc⟩ := hl.cells (by omega)
    refine ⟨rfl, _, rfl, fun j v hj => ?_⟩
    rw [List.getElem?_map] at hj
    obtain ⟨x, hx, rfl⟩ := Option.map_eq_some_iff.1 hj
    rw [List.getElem?_take] at hx
    split at hx
    · have h1 := hc j x hx
      rw [← h1]
      have ha : (⟨bb, off, none⟩ : Addr).add j = ⟨bb, off + j, none⟩ := by by_cases h0 : j = 0 <;> simp [Addr.add, h0]
      rw [ha]
      exact World.cell?_alloc_lt _ _ _ hb
    · cases hx
  have HC3 : Hid (0 + ((b.take 6).map b8).length ≤ (([0, 0, 0, 0, 0, 2] : List UInt8).map b8).length) := by show _ ≤ _; simp; omega
  have HC4 : Hid (∀ v ∈ (b.take 6).map b8, v.oneCell' = true) := fun v hv => by obtain ⟨x, _, rfl⟩ := List.mem_map.1 hv; exact b8_one x
  obtain ⟨CS, HCS⟩ : ∃ CS, Hid (CS = (b.take 6).map b8) := ⟨_, Lib.hid rfl⟩
  rw [← HCS.out] at HC1 HC2 HC3 HC4
  clear hl hlen
  go_enter Try.func22, Try.ntmps22
  go_wp2_with (refine wpList_copy_splice rfl (.tmp 6) (.tmp 7) 23 23 rfl 5 Try.underlying23 hsz (some ⟨w.heap.size, 0, none⟩) a 6 6 n c rfl rfl w.heap.size 0 (([0, 0, 0, 0, 0, 2] : List UInt8).map b8) 56 (heap_alloc_new w _) CS HC1.out (HC2.out _) HC3.out HC4.out w.heap.size w ((Below.refl _ _).alloc (Nat.le_refl _) _) (Nat.le_refl _) ?_; rw [HCS.out]; intro w1 h1 hb1; rw [six_splice] at h1; have h4 := six_cells h1.out 4 (by omega); have h5 := six_cells h1.out 5 (by omega); have h2 := six_cells h1.out 2 (by omega); have h3 := six_cells h1.out 3 (by omega); have HB := Lib.hid hb1; clear h1 hb1)
  have HZ : Hid (UInt8.toNat (UInt8.ofNat (hd b 2)) * 256 + UInt8.toNat (UInt8.ofNat (hd b 3)) = zeroN b) := by unfold zeroN; rw [hd_nat, hd_nat]; rfl
  have HL2 : Hid (UInt8.toNat (UInt8.ofNat (hd b 4)) * 256 + UInt8.toNat (UInt8.ofNat (hd b 5)) = lenN b) := by unfold lenN; rw [hd_nat, hd_nat]; rfl
  have HBG : Hid (begunB b = (decide (zeroN b = 0) && decide (2 ≤ lenN b) && decide (lenN b ≤ 254))) := Lib.hid rfl
  generalize UInt8.ofNat (hd b 2) = x2 at *
  generalize UInt8.ofNat (hd b 3) = x3 at *
  generalize UInt8.ofNat (hd b 4) = x4 at *
  generalize UInt8.ofNat (hd b 5) = x5 at *
  clear hsz
  go_wp2_with fail
  refine (length_any x4 x5 w.heap.size 0 6 6 w1 (by omega) (by omega) (by omega) (by simpa using h4) (by simpa using h5)).mono ?_
  rintro e w2 ⟨k, rfl, rfl⟩
  rw [HL2.out]
  go_wp2_with fail
  refine (number_any x2 x3 w.heap.size 2 4 4 (w1.drewN k) (by omega) (by omega) h2 h3).mono ?_
  rintro e w2 ⟨k2, rfl, rfl⟩
  rw [HZ.out]
  have hlt := lenN_lt b
  generalize zeroN b = z at *
  generalize lenN b = m at *
  clear HZ HL2 HC1 HC2 HC3 HC4 HCS h2 h3 h4 h5
  go_wp2_with fail
  · have g1 : z = 0 := by assumption
    have g2 : (2 : Int) ≤ (m : Int) := by assumption
    have HT : decide ((m : Int) ≤ 254) = begunB b := by
      rw [HBG.out, decide_eq_true g1, decide_eq_true (by omega : 2 ≤ m), Bool.true_and, Bool.true_and, decide_eq_decide]
      omega
    have HT' := Lib.hid HT
    clear g1 g2 HT HBG
    go_ret
    exact ⟨ret_bool HT'.out, below_drawn HB.out _⟩
  · have g1 : z = 0 := by assumption
    have g2 : (m : Int) < 2 := by assumption
    have HT : false = begunB b := by
      rw [HBG.out, decide_eq_false (by omega : ¬ 2 ≤ m), Bool.and_false, Bool.false_and]
    have HT' := Lib.hid HT
    clear g1 g2 HT HBG
    go_ret
    exact ⟨ret_bool HT'.out, below_drawn HB.out _⟩
  · have g1 : ¬ z = 0 := by assumption
    have HT : false = begunB b := by
      rw [HBG.out, decide_eq_false g1, Bool.false_and, Bool.false_and]
    have HT' := Lib.hid HT
    clear g1 HT HBG
    go_ret
    exact ⟨ret_bool HT'.out, below_drawn HB.out _⟩

theorem sl_nil {α : Type} {f : α → Value} {w : World} {B n c : Nat} {l : List α} (h : Sl f w B none n c l) : n = 0 ∧ c = 0 ∧ l = [] := by
  have h1 := h.nil_cap
  have h2 := h.nle
  have h3 := h.len
  exact ⟨by omega, h1, List.eq_nil_of_length_eq_zero (by omega)⟩
set_option maxRecDepth 100000 in
theorem Clone_any (a : Option Addr) (n c : Nat) (l : List UInt8) (w : World) (hl : Sl b8 w w.heap.size a n c l) (hn : n ≤ 1000000) :
    Calls Try.prog 25 #[.slice a n c] w (Fresh b8 l w) := by
  cases a with
  | none =>
    obtain ⟨rfl, rfl, rfl⟩ := sl_nil hl
    have hq : (binOp .eql 23 (.slice none 0 0) (.slice none 0 0)).run Try.prog w = .ok (.bool true) w := by kernel_rfl
    go_enter Try.func25, Try.ntmps25
    go_wp2_with fail
    go_ret
    exact Fresh.mk rfl Sl.none_ (Below.refl _ _) (fun _ h => by cases h)
  | some x =>
    obtain ⟨iB, hB0, hB1, hB2, hB3⟩ := info_parts info8
    have hq : (binOp .eql 23 (.slice (some x) n c) (.slice none 0 0)).run Try.prog w = .ok (.bool false) w := by kernel_rfl
    have HL := Lib.hid hl
    clear hl
    go_enter Try.func25, Try.ntmps25
    go_wp2_with (at_builtin; go_loud (refine wpList_append_sl (f := b8) b8_one rfl (.tmp 5) (.tmp 6) 23 rfl w.heap.size 5 iB (.int .u8 0) 1 Try.underlying23 hB0 hB1 hB2 hB3 rfl (.slice (some ⟨w.heap.size, 0, none⟩) 0 0) 0 [] rfl (World.ownsRow_made w #[] 0 (Nat.le_refl _) (by unfold maxLen; omega) rfl) (some x) n c rfl (HL.out.alloc (Nat.le_refl _) _) (by unfold maxLen; omega) (by omega) (by simp) ?_; intro v4 w4 hown4 hgrow4; simp only [Nat.zero_add, List.nil_append] at hown4; have HW4 := Lib.hid (((Below.refl w.heap.size w).alloc (Nat.le_refl _) (.cells #[] 5)).grown hgrow4 (by simp) (by simp [Value.ownBlock])); have HO := Lib.hid hown4; clear hown4 hgrow4))
    go_ret
    exact Fresh.of_own HO.out (Nat.le_refl _) HW4.out
end Go.Proofs.Yteekdginloljjaa.MbW
