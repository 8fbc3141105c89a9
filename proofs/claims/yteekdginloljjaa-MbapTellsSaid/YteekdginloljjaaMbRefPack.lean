/- The document's own answer: a frame's bytes. -/
import Derived.Test.YteekdginloljjaaMbRefA
open Go.RowKit
namespace Go.Proofs.Yteekdginloljjaa.MbW
open MbM Mem

def headN (x : Fr) : List UInt8 := [hi16 x.tx.toNat, lo16 x.tx.toNat, 0, 0, hi16 (x.pdu.length + 1), lo16 (x.pdu.length + 1), x.unit]
set_option maxRecDepth 100000 in
set_option maxHeartbeats 2000000 in
theorem rPack_any (x : Fr) (a : Option Addr) (c : Nat) (w : World) (hl : Sl b8 w w.heap.size a x.pdu.length c x.pdu) (hR : Right x) :
    Calls Try.prog 11 #[frV x a c] w (Makes b8 (packN x) w) := by
  have hB0 := fun o => (Below.refl w.heap.size w).alloc (Nat.le_refl _) o
  have h1 := hR.1
  have h2 := hR.2
  obtain ⟨i0, hi, hz0, hz1, hz2⟩ := info_parts info8
  have hz2' : i0.bytes = 1 := hz2
  obtain ⟨t, u, p⟩ := x
  simp only at h1 h2 hl ⊢
  have ht := t.toNat_lt
  have hu := u.toNat_lt
  have HL := Lib.hid hl
  have HPK : Hid (packN ⟨t, u, p⟩ = headN ⟨t, u, p⟩ ++ p) := Lib.hid rfl
  generalize packN ⟨t, u, p⟩ = pk at *
  clear hl hR
  go_enter Try.func11, Try.ntmps11
  go_wp2_with fail
  have HV : Hid ((#[.int .u8 ((t.toNat : Int) / 256), .int .u8 ((t.toNat : Int) % 256), .int .u8 0, .int .u8 0, .int .u8 (((p.length : Int) + 1) / 256), .int .u8 (((p.length : Int) + 1) % 256), b8 u] : Array Value).toList = (headN ⟨t, u, p⟩ ++ p.take 0).map b8) := Lib.hid (by
    have e1 : (hi16 t.toNat).toNat = t.toNat / 256 := u8_hi (by simpa using ht)
    have e2 := u8_lo t.toNat
    have e3 : (hi16 (p.length + 1)).toNat = (p.length + 1) / 256 := u8_hi (by omega)
    have e4 := u8_lo (p.length + 1)
    simp only [headN, List.take_zero, List.append_nil, List.map_cons, List.map_nil, b8, e1, e2, e3, e4]
    simp)
  have hown := own_new (w.alloc (.cells (frC ⟨t, u, p⟩ a c) 25)) #[.int .u8 ((t.toNat : Int) / 256), .int .u8 ((t.toNat : Int) % 256), .int .u8 0, .int .u8 0, .int .u8 (((p.length : Int) + 1) / 256), .int .u8 (((p.length : Int) + 1) % 256), b8 u] 5 (base := w.heap.size + 1) (by simp) (n := 7) rfl (by omega)
  rw [HV.out, World.size_alloc] at hown
  have HS := Lib.hid (And.intro hown (And.intro (((Below.refl w.heap.size w).alloc (Nat.le_refl _) (.cells (frC ⟨t, u, p⟩ a c) 25)).alloc (by simp) (.cells #[.int .u8 ((t.toNat : Int) / 256), .int .u8 ((t.toNat : Int) % 256), .int .u8 0, .int .u8 0, .int .u8 (((p.length : Int) + 1) / 256), .int .u8 (((p.length : Int) + 1) % 256), b8 u] 5)) ((Below.heap_alloc (w.alloc (.cells (frC ⟨t, u, p⟩ a c) 25)) (.cells #[.int .u8 ((t.toNat : Int) / 256), .int .u8 ((t.toNat : Int) % 256), .int .u8 0, .int .u8 0, .int .u8 (((p.length : Int) + 1) / 256), .int .u8 (((p.length : Int) + 1) % 256), b8 u] 5) w.heap.size (by simp)).trans (heap_alloc_new w _))))
  clear hown HV
  go_loopw [4, 5] (fun v i wr => ∃ k : Nat, k ≤ p.length ∧ i = .int .i64 (k : Int) ∧ wr.ownsRow (w.heap.size + 1) 5 1 v (7 + k) ((headN ⟨t, u, p⟩ ++ p.take k).map b8) ∧ Below w.heap.size w wr ∧ wr.heap[w.heap.size]? = some (.cells (frC ⟨t, u, p⟩ a c) 25 (0, 0))) (fun _ i _ => p.length - (intOf i).toNat)
  case atStart => exact ⟨0, Nat.zero_le _, rfl, HS.out.1, HS.out.2.1, HS.out.2.2⟩
  case round =>
    obtain ⟨k, hk, rfl, ho, hb, hrow⟩ := hrel
    have hc2 : wr.cell? ⟨w.heap.size, 2, none⟩ = some (.slice a p.length c) := cell_of_row _ _ 2 _ _ _ hrow
    have HO := Lib.hid ho
    have HB := Lib.hid hb
    have HR := Lib.hid hrow
    have hz := (Array.getElem?_eq_some_iff.1 hrow).1
    clear ho hb hrow HS
    by_cases hlt : k < p.length
    · have t1 : decide ((k : Int) < (p.length : Int)) = true := by simp; omega
      obtain ⟨bb, off, y, rfl, hbb, hy, hcy⟩ := (HL.out.below HB.out (Nat.le_refl _)).at_ hlt
      have HY : Hid ((headN ⟨t, u, p⟩ ++ p.take k).map b8 ++ [b8 y] = (headN ⟨t, u, p⟩ ++ p.take (k + 1)).map b8) := Lib.hid (by
        rw [List.take_add_one, hy]; simp)
      have i1 : (0 : Int) ≤ (k : Int) := by omega
      have i2 : (k : Int) < (p.length : Int) := by omega
      have hy8 := y.toNat_lt
      clear hy
      go_wp2_with (at_builtin; refine wpList_append_vals rfl (.tmp 34) (.tmp 40) 23 rfl (w.heap.size + 1) 5 i0 (.int .u8 0) 1 Try.underlying23 hi hz0 hz1 hz2' rfl u4 (7 + k) _ rfl (HO.out.alloc _) ⟨wr.heap.size, 0, none⟩ 1 1 [b8 y] rfl rfl (new_cells wr #[b8 y] _) (fun z hz => by simp at hz; subst hz; rfl) (by unfold maxLen; omega) (by omega) (by simp; omega) ?_; intro v3 w3 hown3 hg3; rw [HY.out] at hown3; have HO3 := Lib.hid hown3; have HG3 := Lib.hid hg3.alloc; clear hown3 hg3)
      go_roundw
      case rel =>
        have hlo : ∀ z, u4.ownBlock = some z → w.heap.size + 1 ≤ z := fun z hz => (HO.out.lt z hz).1
        exact ⟨k + 1, by omega, by go_num, HO3.out, Grew.below HB.out HG3.out (by omega) (fun z hz => by have := hlo z hz; omega), (HG3.out.grown.block _ hz (fun h => by have := hlo _ h.symm; omega)).trans HR.out⟩
      case measure => simp [intOf]; omega
    · obtain rfl : k = p.length := by omega
      have t1 : decide ((p.length : Int) < (p.length : Int)) = false := by simp
      have h := HO.out
      rw [List.take_length, ← HPK.out] at h
      obtain ⟨a4, c4, rfl, hs4⟩ := Sl.of_own h
      have HS4 := Lib.hid hs4
      clear h hs4
      go_wp2_with fail
      go_ret
      exact Makes.mk rfl HS4.out HB.out
end Go.Proofs.Yteekdginloljjaa.MbW
