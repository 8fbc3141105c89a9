/- What is cut, by the document's own answer. -/
import Derived.Test.YtiecncnmmecjcaaCrcCut
import Derived.Deep.QuietTactic
import Derived.BigQuiet
open Go.RowKit
namespace Go.Proofs.Ytiecncnmmecjcaa.CrcW
open CrcM Mem

theorem refCut_short (a : Option Addr) (n c : Nat) (l : List UInt8) (w : World) (hl : Sl b8 w w.heap.size a n c l) (hn : n < 2) :
    Calls Try.prog 75 #[.slice a n c] w (CutGives (cutN l) w) := by
  have hc : cutN l = (10, []) := by unfold cutN; rw [if_pos (by rw [hl.len]; exact hn)]
  rw [hc]
  go_enter Try.func75, Try.ntmps75
  go_wp2
  go_ret2
  exact CutGives.none_ 10 (Below.refl _ _)

set_option maxHeartbeats 1000000 in
set_option maxRecDepth 100000 in
theorem refCut_long (a : Option Addr) (k c : Nat) (l : List UInt8) (w : World) (hl : Sl b8 w w.heap.size a (k + 2) c l) (hn : k ≤ 1000000) :
    Calls Try.prog 75 #[.slice a (k + 2) c] w (CutGives (cutN l) w) := by
  obtain ⟨i0, hi, hz0, hz1, hz2⟩ := info_parts info8
  have hkc : k + 2 ≤ c := hl.nle
  have hcm : c ≤ 9223372036854775807 := by have h1 := hl.cle; unfold maxLen at h1; omega
  obtain ⟨b, off, x, rfl, hbl, hx, hcx⟩ := hl.at_ (k := k) (by omega)
  obtain ⟨b', off', y, he, _, hy, hcy⟩ := hl.at_ (k := k + 1) (by omega)
  injection he with he
  injection he with he1 he2
  subst he1 he2
  have hT := hl.take_ (k := k) (by omega)
  have hC := Lib.hid (cutN_two hl.len hx hy)
  clear hx hy
  go_enter Try.func75, Try.ntmps75
  go_wp2_with fail
  refine (refSum_any w.heap.size _ k c _ w hT).mono ?_
  rintro e w1 ⟨rfl, rfl⟩
  have hs := sumN_lt (l.take k)
  have hx8 := x.toNat_lt
  have hy8 := y.toNat_lt
  have HL := Lib.hid hl
  have HT := Lib.hid hT
  have hlk : (l.take k).length = k := hT.len
  have Hlk := Lib.hid hlk
  clear hl hT hlk
  generalize sumN (l.take k) = s at *
  by_cases h0 : x.toNat + 256 * y.toNat = s
  · have hR := Lib.hid (hC.out.trans (if_pos (by omega)))
    have n1 : (((x.toNat : Int) + 256 * (y.toNat : Int)) != (s : Int)) = false := by simp; omega
    have n2 : (((x.toNat : Int) + 256 * (y.toNat : Int)) == (s : Int)) = true := by simp; omega
    clear h0 hC
    go_wp2_with fail
    go_quiet (fail)
    go_wp2_with (at_builtin; refine wpList_append_sl (f := b8) b8_one rfl (.tmp 33) (.tmp 36) 27 rfl w.heap.size 5 i0 (.int .u8 0) 1 Try.underlying27 hi hz0 hz1 hz2 rfl (.slice none 0 0) 0 [] rfl (World.ownsRow_nil _ _ _ _) (some ⟨b, off, none⟩) k c rfl (HT.out.drawn _) (by unfold maxLen; omega) (by omega) (Nat.le_refl _) ?_; intro v1 w1 hown1 hgrow1)
    have hb1 := below_ahead ((Below.refl w.heap.size _).grown hgrow1 (Nat.le_refl _) (by simp [Value.ownBlock]))
    simp only [Nat.zero_add, List.nil_append] at hown1
    obtain ⟨a', c', hv, hsl⟩ := Sl.of_own hown1
    subst hv
    go_ret2
    rw [hR.out]
    exact ⟨a', c', by simp only [Hlk.out]; rfl, by simp only [Hlk.out]; exact hsl, hb1⟩
  · have hR := Lib.hid (hC.out.trans (if_neg (by omega)))
    have n1 : (((x.toNat : Int) + 256 * (y.toNat : Int)) != (s : Int)) = true := by simp; omega
    have n2 : (((x.toNat : Int) + 256 * (y.toNat : Int)) == (s : Int)) = false := by simp; omega
    clear h0 hC
    go_wp2_with fail
    go_quiet (fail)
    go_wp2
    go_ret2
    rw [hR.out]
    exact CutGives.none_ 11 (below_drawn (Below.refl _ _) _)
theorem refCut_any (a : Option Addr) (n c : Nat) (l : List UInt8) (w : World) (hl : Sl b8 w w.heap.size a n c l) (hn : n ≤ 1000000) :
    Calls Try.prog 75 #[.slice a n c] w (CutGives (cutN l) w) := by
  by_cases h : n < 2
  · exact refCut_short a n c l w hl h
  · obtain ⟨k, rfl⟩ : ∃ k, n = k + 2 := ⟨n - 2, by omega⟩
    exact refCut_long a k c l w hl (by omega)
end Go.Proofs.Ytiecncnmmecjcaa.CrcW
