/- Numbers put behind bytes. -/
import Derived.Test.YtamdpinfbadflaaAskA
import Derived.Test.YtamdpinfbadflaaGrow
open Go.RowKit
namespace Go.Proofs.Ytamdpinfbadflaa.AskW
open AskM Mem

theorem info8 : (Try.prog.info? 5).map (fun i => (i.zero, i.size, i.bytes)) = some (some (.int .u8 0), 1, 1) := by kernel_rfl
theorem info16 : (Try.prog.info? 29).map (fun i => (i.zero, i.size, i.bytes)) = some (some (.int .u16 0), 1, 2) := by kernel_rfl
theorem infoB : (Try.prog.info? 4).map (fun i => (i.zero, i.size, i.bytes)) = some (some (.bool false), 1, 1) := by kernel_rfl
/-- The call answers what it was handed, and l behind it; nothing else that was there is written. -/
def Puts (base : Nat) (v : Value) (l : List UInt8) (w : World) (e : Ending) (w' : World) : Prop :=
  ∃ v', e = .returned v' ∧ w'.ownsRow base 5 1 v' l.length (l.map b8) ∧ Grew w v w' v'
theorem Puts.mk {base : Nat} {v v' : Value} {l : List UInt8} {n : Nat} {w w' : World} (h : w'.ownsRow base 5 1 v' n (l.map b8)) (hg : Grew w v w' v') : Puts base v l w (.returned v') w' := by
  have := h.1
  simp at this
  subst this
  exact ⟨v', rfl, h, hg⟩
theorem hi_val (x : UInt16) : Value.int .u8 ((x.toNat : Int) / 256) = b8 (hi x) := by rw [b8, toNat_hi]; rfl
theorem lo_val (x : UInt16) : Value.int .u8 ((x.toNat : Int) % 256) = b8 (lo x) := by rw [b8, toNat_lo]; rfl

theorem take_put {l : List UInt16} {k : Nat} {x : UInt16} (h : l[k]? = some x) : putN (l.take (k + 1)) = putN (l.take k) ++ [hi x, lo x] := by
  have : l.take (k + 1) = l.take k ++ [x] := by rw [List.take_add_one, h]; rfl
  rw [this, putN_append]
  rfl
theorem put_any (v : Value) (n : Nat) (bs : List UInt8) (a : Option Addr) (nw cw : Nat) (l : List UInt16) (base : Nat) (w : World) (hown : w.ownsRow base 5 1 v n (bs.map b8))
    (hS : Sl b16 w w.heap.size a nw cw l) (hne : ∀ x : Addr, a = some x → v.ownBlock ≠ some x.block) (hlen : n + 2 * nw ≤ 1000000) (hbase : base ≤ w.heap.size) :
    Calls Try.prog 74 #[v, .slice a nw cw] w (Puts base v (bs ++ putN l) w) := by
  obtain ⟨i0, hi0, hz0, hz1, hz2⟩ := info_parts info8
  have HH := Lib.hid (And.intro hown (And.intro hi0 (And.intro hz0 (And.intro hz1 hz2))))
  clear hown hi0 hz0 hz1 hz2
  go_enter Try.func74, Try.ntmps74
  go_wp2
  go_loopw [0, 9] (fun v1 i wr => ∃ k : Nat, k ≤ nw ∧ i = .int .i64 k ∧ wr.ownsRow base 5 1 v1 (n + 2 * k) ((bs ++ putN (l.take k)).map b8) ∧ Grew w v wr v1) (fun _ i _ => nw - (intOf i).toNat)
  case atStart => exact ⟨0, by omega, rfl, by simpa [putN] using HH.out.1, Grew.refl _ _⟩
  case round =>
    obtain ⟨k, hk, rfl, ho, hg⟩ := hrel
    obtain ⟨-, hi0, hz0, hz1, hz2⟩ := HH.out
    by_cases hlt : k < nw
    · have hl := hS.grew hg hne
      obtain ⟨b, off, x, rfl, hbk, hx, hcell⟩ := hl.at_ hlt
      have HT := Lib.hid (take_put hx)
      have HX := Lib.hid (And.intro hi0 (And.intro hz0 (And.intro hz1 hz2)))
      have HO := Lib.hid ho
      have HG := Lib.hid hg
      have HZ := hg.size
      have hx16 := x.toNat_lt
      have hb : decide ((k : Int) < (nw : Int)) = true := by simp; omega
      clear hx hi0 hz0 hz1 hz2 ho hg hS hl hne
      go_wp2_with (refine wpList_append_vals rfl (.tmp 13) (.tmp 19) 51 rfl base 5 i0 (.int .u8 0) 1 Try.underlying51 HX.out.1 HX.out.2.1 HX.out.2.2.1 HX.out.2.2.2 rfl u0 (n + 2 * k) _ rfl (HO.out.alloc _) ⟨wr.heap.size, 0, none⟩ 2 2 [.int .u8 ((x.toNat : Int) / 256), .int .u8 ((x.toNat : Int) % 256)] rfl rfl (new_cells wr #[.int .u8 ((x.toNat : Int) / 256), .int .u8 ((x.toNat : Int) % 256)] _) ?c1 ?c2 ?c3 ?c4 ?_)
      case c1 => intro u hu; simp at hu; rcases hu with rfl | rfl <;> rfl
      case c2 => unfold maxLen; omega
      case c3 => omega
      case c4 => simp; omega
      intro v' w1 hown' hgrow
      have HO1 := Lib.hid hown'
      have HG1 := Lib.hid hgrow
      clear hown' hgrow
      go_wp2
      go_roundw
      case rel =>
        refine ⟨k + 1, by omega, by go_num, ?_, HG.out.trans HG1.out.alloc⟩
        have h := HO1.out
        rw [hi_val, lo_val] at h
        rw [HT.out, ← List.append_assoc, List.map_append]
        simpa [Nat.mul_add, Nat.add_assoc] using h
      case measure => simp [intOf]; omega
    · obtain rfl : k = nw := by omega
      rw [List.take_of_length_le (by rw [hS.len]; exact Nat.le_refl _)] at ho
      have hb : decide ((k : Int) < (k : Int)) = false := by simp
      clear hi0 hz0 hz1 hz2
      have HO := Lib.hid ho
      have HG := Lib.hid hg
      clear ho hg hS hne
      go_wp2
      go_ret
      exact Puts.mk HO.out HG.out
end Go.Proofs.Ytamdpinfbadflaa.AskW
