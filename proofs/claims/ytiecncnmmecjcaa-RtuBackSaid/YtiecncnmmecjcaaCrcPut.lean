/- What is put behind bytes, and what is cut. -/
import Derived.Test.YtiecncnmmecjcaaCrcRef
open Go.RowKit
namespace Go.Proofs.Ytiecncnmmecjcaa.CrcW
open CrcM Mem

/-- The two bytes of a sum. -/
def tail2 (s : Nat) : List UInt8 := [UInt8.ofNat (s % 256), UInt8.ofNat (s / 256)]
def putN (l : List UInt8) : List UInt8 := l ++ tail2 (sumN l)

theorem info8 : (Try.prog.info? 5).map (fun i => (i.zero, i.size, i.bytes)) = some (some (.int .u8 0), 1, 1) := by kernel_rfl

theorem b8_one (x : UInt8) : (b8 x).oneCell' = true := rfl

set_option maxHeartbeats 400000 in
set_option maxRecDepth 100000 in
theorem Put_own (a : Option Addr) (n c : Nat) (l : List UInt8) (w : World) (hl : Sl b8 w w.heap.size a n c l) (hn : n ≤ 1000000) :
    Calls Try.prog 72 #[.slice a n c] w fun e w' => ∃ v, e = .returned v ∧ w'.ownsRow w.heap.size 5 1 v (n + 2) ((putN l).map b8) ∧ Below w.heap.size w w' := by
  obtain ⟨i0, hi, hz0, hz1, hz2⟩ := info_parts info8
  have hsz : (Try.prog.info? 5).map (·.size) = some 1 := by rw [hi]; simp [hz1]
  go_enter Try.func72, Try.ntmps72
  go_wp2_with (first | (at_make; refine wpList_make_row rfl (.tmp 7) (.tmp 10) 27 rfl 5 i0 (.int .u8 0) 1 Try.underlying27 hi hz0 hz1 hz2 rfl .i64 .i64 _ _ n (n + 2) rfl rfl rfl (by simp) (by omega) (by omega) (by omega) ?_; intro w1 hr1 hb1 hs1) | (refine wpList_copy_head (f := b8) b8_one rfl (.tmp 12) (.tmp 13) 27 27 rfl 5 Try.underlying27 hsz w.heap.size n (n + 2) rfl a n c rfl (hl.below hb1 (Nat.le_refl _)) (Nat.le_refl _) hr1.out (by omega) ?_; intro w2 hr2 hb2))
  have hL2 := ((hl.below hb1 (Nat.le_refl _)).below hb2 (Nat.le_refl _)).more (B' := w2.heap.size) (by have h1 := hb1.size; have h2 := hb2.size; omega)
  refine (Sum_any a n c l w2 hL2).mono ?_
  rintro e w3 ⟨rfl, hb3⟩
  have hs := sumN_lt l
  have hrow := (hb3.block w.heap.size (by have h2 := hb2.size; omega)).trans hr2.out
  have hown : w3.ownsRow w.heap.size 5 1 (.slice (some ⟨w.heap.size, 0, none⟩) n (n + 2)) n (l.map b8) := by
    have hlen := hl.len
    have h1 := own_of_row hrow (n := n) (by simp; omega) (by simp; unfold maxLen; omega) (base := w.heap.size) (Nat.le_refl _)
    have h2 : ((l.take n).map b8 ++ List.replicate (n + 2 - n) (Value.int .u8 0)).length = n + 2 := by simp; omega
    rw [h2, List.take_left' (by simp; omega), List.take_of_length_le (by omega)] at h1
    exact h1
  have hB := Lib.hid ((hb1.trans (hb2.mono (Nat.le_refl _))).trans (hb3.mono (by have h1 := hb1.size; have h2 := hb2.size; omega)))
  have hz3 : w.heap.size < w3.heap.size := by have h2 := hb2.size; have h3 := hb3.size; omega
  have hP := Lib.hid (show putN l = l ++ tail2 (sumN l) from rfl)
  clear hr1 hr2 hb1 hb2 hb3 hs1 hL2 hrow
  generalize sumN l = s at *
  go_wp2_with (first | (go_at_call 83; refine (halves_any _ (by omega) (by omega) _).mono ?_; rintro e w4 ⟨rfl, rfl⟩) | (at_builtin; refine wpList_append_fits _ rfl (.tmp 21) (.tmp 24) 27 rfl w.heap.size 5 i0 1 Try.underlying27 hi hz1 w.heap.size n (n + 2) (l.map b8) rfl (hown.alloc _) ⟨w3.heap.size, 0, none⟩ 2 2 [.int .u8 ((s : Int) % 256), .int .u8 ((s : Int) / 256)] rfl rfl (new_cells _ _ _) (by simp [Value.oneCell']) (Nat.le_refl _) ?_; intro w5 hown5 hgrow5))
  have hB5 : Below w.heap.size w w5 := (hB.out.alloc (by omega) _).grown hgrow5 (by simp; omega) (by rintro k hk; injection hk with hk; omega)
  have hp : l.map b8 ++ [.int .u8 ((s : Int) % 256), .int .u8 ((s : Int) / 256)] = (putN l).map b8 := by
    rw [hP.out, List.map_append]
    congr 1
    simp [tail2]
    omega
  rw [hp] at hown5
  go_ret
  exact ⟨_, rfl, hown5, hB5⟩
theorem Put_any (a : Option Addr) (n c : Nat) (l : List UInt8) (w : World) (hl : Sl b8 w w.heap.size a n c l) (hn : n ≤ 1000000) :
    Calls Try.prog 72 #[.slice a n c] w (Makes b8 (putN l) w) :=
  (Put_own a n c l w hl hn).mono fun _ _ ⟨_, he, ho, hb⟩ => by subst he; exact Makes.of_own ho hb

set_option maxHeartbeats 400000 in
set_option maxRecDepth 100000 in
theorem refPut_any (a : Option Addr) (n c : Nat) (l : List UInt8) (w : World) (hl : Sl b8 w w.heap.size a n c l) (hn : n ≤ 1000000) :
    Calls Try.prog 73 #[.slice a n c] w (Makes b8 (putN l) w) := by
  obtain ⟨i0, hi, hz0, hz1, hz2⟩ := info_parts info8
  have hm : n + 2 ≤ maxLen := by unfold maxLen; omega
  go_enter Try.func73, Try.ntmps73
  go_wp2_with (at_builtin; refine wpList_append_sl (f := b8) b8_one rfl (.tmp 5) (.tmp 6) 27 rfl w.heap.size 5 i0 (.int .u8 0) 1 Try.underlying27 hi hz0 hz1 hz2 rfl (.slice none 0 0) 0 [] rfl (World.ownsRow_nil _ _ _ _) a n c rfl hl (by omega) (by omega) (Nat.le_refl _) ?_; intro v1 w1 hown1 hgrow1)
  have hb1 := (Below.refl w.heap.size w).grown hgrow1 (Nat.le_refl _) (by simp [Value.ownBlock])
  refine (refSum_any w.heap.size a n c l w1 (hl.below hb1 (Nat.le_refl _))).mono ?_
  rintro e w2 ⟨rfl, rfl⟩
  have hs := sumN_lt l
  have hP := Lib.hid (show putN l = l ++ tail2 (sumN l) from rfl)
  have hB := Lib.hid hb1
  have hlt := hown1.lt
  have hz := hb1.size
  clear hb1 hgrow1 hl
  generalize sumN l = s at *
  simp only [Nat.zero_add, List.nil_append] at hown1
  go_wp2_with (first | (at_builtin; refine wpList_append_new rfl (.tmp 10) (.tmp 14) 27 rfl w.heap.size 5 i0 (.int .u8 0) 1 Try.underlying27 hi hz0 hz1 hz2 rfl v1 n (l.map b8) rfl (hown1.alloc _) ⟨w1.heap.size, 0, none⟩ 1 1 [.int .u8 ((s : Int) % 256)] rfl rfl (new_cells _ _ _) (by simp [Value.oneCell']) (by omega) (by omega) (by simp; omega) ?_; intro v2 w2 hown2 hgrow2) | (at_builtin; refine wpList_append_new rfl (.tmp 16) (.tmp 20) 27 rfl w.heap.size 5 i0 (.int .u8 0) 1 Try.underlying27 hi hz0 hz1 hz2 rfl v2 (n + 1) _ rfl (hown2.alloc _) ⟨w2.heap.size, 0, none⟩ 1 1 [.int .u8 ((s : Int) / 256)] rfl rfl (new_cells _ _ _) (by simp [Value.oneCell']) (by omega) (by omega) (by have := hgrow2.size; simp at this ⊢; omega) ?_; intro v3 w3 hown3 hgrow3))
  have hb2 := ((hB.out.alloc hz (.cells #[.int .u8 ((s : Int) % 256)] 5)).grown hgrow2 (by simp; omega) (fun k hk => (hlt k hk).1))
  have hlt2 := hown2.lt
  have hb3 := ((hb2.alloc (by have := hgrow2.size; simp at this; omega) (.cells #[.int .u8 ((s : Int) / 256)] 5)).grown hgrow3 (by have := hgrow2.size; simp at this ⊢; omega) (fun k hk => (hlt2 k hk).1))
  have hp : l.map b8 ++ [.int .u8 ((s : Int) % 256)] ++ [.int .u8 ((s : Int) / 256)] = (putN l).map b8 := by
    rw [hP.out, List.map_append, List.append_assoc]
    congr 1
    simp [tail2]
    omega
  rw [hp] at hown3
  go_ret
  exact Makes.of_own hown3 hb3
end Go.Proofs.Ytiecncnmmecjcaa.CrcW
