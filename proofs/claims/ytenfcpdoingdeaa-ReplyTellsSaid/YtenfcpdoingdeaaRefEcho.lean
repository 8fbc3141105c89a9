/- RefEcho: what was RefEcho, RefFits. -/
import Derived.Test.YtenfcpdoingdeaaReplyEcho
import Derived.Test.YtenfcpdoingdeaaRefRight3
import Derived.Deep.DeepCutAuto
import Derived.Test.YtenfcpdoingdeaaAskKit
import Derived.Test.YtenfcpdoingdeaaRefSame
/- The document's own answer: echoes. -/
open Go.RowKit
namespace Go.Proofs.Ytenfcpdoingdeaa.RefW
open AskM AskW ReplyM ReplyW Mem

/-- Behind the drawn region: the answer's row, the one list in memory. -/
structure EchoP (w : World) {α : Type} (f : α → Value) (row : Array Value) (A : Option Addr) (l : List α) (W : World) : Prop where
  row : W.heap[w.heap.size + 1]? = some (.cells row 45 (0, 0))
  list : Sl f W W.heap.size A 1 1 l
  below : Below w.heap.size w W
theorem EchoP.drew {w : World} {α : Type} {f : α → Value} {row : Array Value} {A : Option Addr} {l : List α} {W : World} (h : EchoP w f row A l W) : EchoP w f row A l W.drew := ⟨h.row, h.list, h.below.drew⟩
set_option maxRecDepth 100000 in
set_option maxHeartbeats 8000000 in
theorem rEcho_any (a : Req) (aw : Option Addr) (cw : Nat) (ab : Option Addr) (cb : Nat) (w : World) (hA : AskAt w w.heap.size a aw cw ab cb) (hnw : a.words.length ≤ 1000000) (hnb : a.bits.length ≤ 1000000) :
    Calls Try.prog 34 #[askV a aw cw ab cb] w (ReadR (echoN a) w) := by
  have HA := Lib.hid hA
  clear hA
  obtain ⟨f1, a1, m1, t1, ws, bs⟩ := a
  simp only at hnw hnb
  have hB0 : Boxed w #[b8 f1, b16 a1, b16 m1, b16 t1, .slice aw ws.length cw, .slice ab bs.length cb] zeroRC 26 45 ((w.alloc (.cells #[b8 f1, b16 a1, b16 m1, b16 t1, .slice aw ws.length cw, .slice ab bs.length cb] 26)).alloc (.cells zeroRC 45)) := Below.refl _ _
  have HB := Lib.hid hB0
  clear hB0
  have hf8 := f1.toNat_lt
  obtain ⟨z1, hz1⟩ : ∃ z, rightN ⟨f1, a1, m1, t1, ws, bs⟩ = z := ⟨_, rfl⟩
  have HZ1 := Lib.hid hz1
  cases z1
  · have HF : Hid (echoN ⟨f1, a1, m1, t1, ws, bs⟩ = none) := Lib.hid (by unfold echoN; rw [if_pos hz1])
    clear hz1
    go_enter Try.func34, Try.ntmps34
    go_wp2_with fail
    refine (rRight_any ⟨f1, a1, m1, t1, ws, bs⟩ aw cw ab cb _ hnw hnb).mono ?_
    rw [HZ1.out]
    rintro e w1 ⟨rfl, hb⟩
    have HB1 : Hid (Boxed w #[b8 f1, b16 a1, b16 m1, b16 t1, .slice aw ws.length cw, .slice ab bs.length cb] zeroRC 26 45 w1) := Lib.hid (HB.out.on (hb.mono HB.out.size))
    clear hb
    have C1 := HB1.out.one
    go_wp2_with (refine wpList_store_row rfl 45 (.tmp 2) (.tmp 7) rfl (w.heap.size + 1) zeroRC rfl rfl 45 zeroRC HB1.out.h2 (by kernel_rfl) (by kernel_rfl) (by kernel_rfl) ?_)
    have hBS := below_setRow HB1.out.below (show w.heap.size ≤ w.heap.size + 1 by omega) zeroRC
    exact bodyPost_ret (v := .tuple #[.agg zeroRC, .bool false]) (results_cell_row_tmp rfl _ _ (w.heap.size + 1) 45 _ (0, 0) _ rfl (setRow_heap _ _ _ _ _ _ HB1.out.h2) Try.underlying45 rfl (by kernel_rfl) _ rfl) rfl (readR_none HF.out hBS)
  have hz1' : ¬ rightN ⟨f1, a1, m1, t1, ws, bs⟩ = false := by rw [hz1]; simp
  by_cases g5 : f1.toNat = 5
  · have HF : Hid (echoN ⟨f1, a1, m1, t1, ws, bs⟩ = some ⟨f1, 0, bs, [], a1, 0⟩) := Lib.hid (by unfold echoN; rw [if_neg hz1', if_pos g5])
    have k5 : ((f1.toNat : Int) == 5) = true := by simp; omega
    have hr1 := hz1
    obtain ⟨x, rfl⟩ : ∃ x, bs = [x] := by
      have hh := hr1
      unfold rightN at hh
      rw [show rowN f1.toNat = some ⟨0, 1, 0, false⟩ by rw [g5]; rfl] at hh
      simp only at hh
      rw [fit_5] at hh
      have h2 := of_decide_eq_true hh
      match bs, h2 with
      | [x], _ => exact ⟨x, rfl⟩
      | [], h2 => exact absurd h2.2.1 (by simp)
      | _ :: _ :: _, h2 => exact absurd h2.2.1 (by simp)
    obtain ⟨bb, off, x', rfl, hbb, hx', hcx⟩ := HA.out.bits.at_ (k := 0) (by simp)
    obtain rfl : x = x' := by simpa using hx'
    rw [Nat.add_zero] at hcx
    clear hx'
    simp only [List.length_cons, List.length_nil, Nat.zero_add] at *
    have HF1 : Hid (b8 f1 = .int .u8 5) := Lib.hid (by unfold b8; rw [g5]; rfl)
    clear hz1 hz1' g5 hr1
    go_enter Try.func34, Try.ntmps34
    go_wp2_with fail
    refine (rRight_any ⟨f1, a1, m1, t1, ws, [x]⟩ aw cw (some ⟨bb, off, none⟩) cb _ hnw hnb).mono ?_
    rw [HZ1.out]
    rintro e w1 ⟨rfl, hb⟩
    have HB1 : Hid (Boxed w #[b8 f1, b16 a1, b16 m1, b16 t1, .slice aw ws.length cw, .slice (some ⟨bb, off, none⟩) 1 cb] zeroRC 26 45 w1) := Lib.hid (HB.out.on (hb.mono HB.out.size))
    clear hb
    have C1 := HB1.out.one
    go_upto_region 4 with fail
    clear C1
    go_cut [3] (fun s3 wx => s3 = .bool true ∧ Hid (EchoP w (Value.bool) (#[.int .u8 5, .int .u8 0, .slice (some ⟨w1.heap.size, 0, none⟩) 1 1, .slice none 0 0, b16 a1, .int .u16 0]) (some ⟨w1.heap.size, 0, none⟩) [x] wx))
    case first =>
      have hne : ¬ w.heap.size + 1 = w.heap.size := by omega
      have hne2 : ¬ w.heap.size = w.heap.size + 1 := by omega
      have hz : w.heap.size + 1 < w1.heap.size := by have := HB1.out.size; omega
      have hzb : w.heap.size < w1.heap.size := by omega
      have hzx : bb < w1.heap.size := by omega
      have hkx : w1.cell? ⟨bb, off, none⟩ = some (.bool x) := (HB1.out.below.cell (p := ⟨bb, off, none⟩) hbb).trans hcx
      have hk0 : w1.cell? ⟨w.heap.size, 1, none⟩ = some (b16 a1) := HB1.out.one 1
      have hk2 : w1.cell? ⟨w.heap.size, 5, none⟩ = some (.slice (some ⟨bb, off, none⟩) 1 cb) := HB1.out.one 5
      have hb3 := (Below.refl w1.heap.size w1).alloc (Nat.le_refl _) (.cells #[.bool x] 4)
      have HRB : Hid (RepBlock (w1.alloc (.cells #[.bool x] 4)) (w.heap.size + 1)) := Lib.hid ((show RepBlock w1 (w.heap.size + 1) from ⟨_, _, _, _, _, _, HB1.out.h2⟩).below hb3 hz)
      have HR0 : Hid (RepBlock w1 (w.heap.size + 1)) := Lib.hid ⟨_, _, _, _, _, _, HB1.out.h2⟩
      have HRD : Hid (RepBlock (w1.alloc (.cells #[.bool x] 4)).drew (w.heap.size + 1)) := Lib.hid HRB.out
      have hzu := HR0.out.frozen
      obtain ⟨u0, hu0⟩ := HR0.out.cell 0 (by omega)
      obtain ⟨u1, hu1⟩ := HR0.out.cell 1 (by omega)
      obtain ⟨u2, hu2⟩ := HR0.out.cell 2 (by omega)
      obtain ⟨u3, hu3⟩ := HR0.out.cell 3 (by omega)
      obtain ⟨u4, hu4⟩ := HR0.out.cell 4 (by omega)
      obtain ⟨u5, hu5⟩ := HR0.out.cell 5 (by omega)
      have hzv := HRB.out.frozen
      obtain ⟨v0, hv0⟩ := HRB.out.cell 0 (by omega)
      obtain ⟨v1, hv1⟩ := HRB.out.cell 1 (by omega)
      obtain ⟨v2, hv2⟩ := HRB.out.cell 2 (by omega)
      obtain ⟨v3, hv3⟩ := HRB.out.cell 3 (by omega)
      obtain ⟨v4, hv4⟩ := HRB.out.cell 4 (by omega)
      obtain ⟨v5, hv5⟩ := HRB.out.cell 5 (by omega)
      have hzx := HRD.out.frozen
      obtain ⟨x0, hx0⟩ := HRD.out.cell 0 (by omega)
      obtain ⟨x1, hx1⟩ := HRD.out.cell 1 (by omega)
      obtain ⟨x2, hx2⟩ := HRD.out.cell 2 (by omega)
      obtain ⟨x3, hx3⟩ := HRD.out.cell 3 (by omega)
      obtain ⟨x4, hx4⟩ := HRD.out.cell 4 (by omega)
      obtain ⟨x5, hx5⟩ := HRD.out.cell 5 (by omega)
      go_region
      have HS := rsetAlloc_heap (W := w1) (g := w.heap.size + 1) (f := .int .u8 5) (b := .int .u8 0) (m := .slice (some ⟨w1.heap.size, 0, none⟩) 1 1) (t := .slice none 0 0) (ws := b16 a1) (bs := .int .u16 0) (o := .cells #[.bool x] 4) hz HR0.out
      have HN := Sl.new_at (f := Value.bool) (setAll w1 (w.heap.size + 1) (.int .u8 5) (.int .u8 0) (.slice (some ⟨w1.heap.size, 0, none⟩) 1 1) (.slice none 0 0) (b16 a1) (.int .u16 0)) #[.bool x] 4 (0, 0) [x] 1 rfl rfl (by omega) w1.heap.size setAll_size.symm
      have HB2 := rset_below (W := w1) (g := w.heap.size + 1) (f := .int .u8 5) (b := .int .u8 0) (m := .slice (some ⟨w1.heap.size, 0, none⟩) 1 1) (t := .slice none 0 0) (ws := b16 a1) (bs := .int .u16 0) HB1.out.below (show w.heap.size ≤ w.heap.size + 1 by omega) (.cells #[.bool x] 4)
      unfold setAll at HS HN HB2
      have HS2 := Lib.hid (And.intro HS (And.intro HN HB2))
      have hsz := HB1.out.size
      clear HS HN HB2 hk0 hk2 hkx hb3 hzu hu0 hu1 hu2 hu3 hu4 hu5 hzv hv0 hv1 hv2 hv3 hv4 hv5 hzx hx0 hx1 hx2 hx3 hx4 hx5
      go_wp2_with fail
      go_meet
      exact ⟨rfl, Lib.hid (EchoP.drew ⟨HS2.out.1, HS2.out.2.1, HS2.out.2.2⟩)⟩
    case rest =>
      obtain ⟨rfl, HE⟩ := hcut
      have hsz := HB1.out.size
      go_wp2_with fail
      exact bodyPost_ret (v := .tuple #[.agg #[.int .u8 5, .int .u8 0, .slice (some ⟨w1.heap.size, 0, none⟩) 1 1, .slice none 0 0, b16 a1, .int .u16 0], .bool true]) (results_cell_row_tmp rfl _ _ (w.heap.size + 1) 45 _ (0, 0) _ rfl HE.out.row Try.underlying45 rfl (by kernel_rfl) _ rfl) rfl
        (readR_some (q := ⟨f1, 0, [x], [], a1, 0⟩) (aw := none) (cw := 0) (ab := some ⟨w1.heap.size, 0, none⟩) (cb := 1) HF.out (congrArg (fun z => Value.agg #[z, .int .u8 0, .slice (some ⟨w1.heap.size, 0, none⟩) 1 1, .slice none 0 0, b16 a1, .int .u16 0]) HF1.out.symm) ⟨Sl.none_, HE.out.list⟩ HE.out.below (fun y hy => by rcases hy with hy | hy <;> first | (cases hy; done) | (injection hy with hy; subst hy; show w.heap.size ≤ w1.heap.size; omega)))
  by_cases g6 : f1.toNat = 6
  · have HF : Hid (echoN ⟨f1, a1, m1, t1, ws, bs⟩ = some ⟨f1, 0, [], ws, a1, 0⟩) := Lib.hid (by unfold echoN; rw [if_neg hz1', if_neg g5, if_pos g6])
    have k5 : ((f1.toNat : Int) == 5) = false := by simp; omega
    have k6 : ((f1.toNat : Int) == 6) = true := by simp; omega
    have hr1 := hz1
    obtain ⟨x, rfl⟩ : ∃ x, ws = [x] := by
      have hh := hr1
      unfold rightN at hh
      rw [show rowN f1.toNat = some ⟨0, 0, 1, false⟩ by rw [g6]; rfl] at hh
      simp only at hh
      rw [fit_6] at hh
      have h2 := of_decide_eq_true hh
      match ws, h2 with
      | [x], _ => exact ⟨x, rfl⟩
      | [], h2 => exact absurd h2.2.2.1 (by simp)
      | _ :: _ :: _, h2 => exact absurd h2.2.2.1 (by simp)
    obtain ⟨bb, off, x', rfl, hbb, hx', hcx⟩ := HA.out.words.at_ (k := 0) (by simp)
    obtain rfl : x = x' := by simpa using hx'
    rw [Nat.add_zero] at hcx
    clear hx'
    simp only [List.length_cons, List.length_nil, Nat.zero_add] at *
    have HF1 : Hid (b8 f1 = .int .u8 6) := Lib.hid (by unfold b8; rw [g6]; rfl)
    clear hz1 hz1' g5 g6 hr1
    go_enter Try.func34, Try.ntmps34
    go_wp2_with fail
    refine (rRight_any ⟨f1, a1, m1, t1, [x], bs⟩ (some ⟨bb, off, none⟩) cw ab cb _ hnw hnb).mono ?_
    rw [HZ1.out]
    rintro e w1 ⟨rfl, hb⟩
    have HB1 : Hid (Boxed w #[b8 f1, b16 a1, b16 m1, b16 t1, .slice (some ⟨bb, off, none⟩) 1 cw, .slice ab bs.length cb] zeroRC 26 45 w1) := Lib.hid (HB.out.on (hb.mono HB.out.size))
    clear hb
    have C1 := HB1.out.one
    go_upto_region 6 with fail
    clear C1
    go_cut [3] (fun s3 wx => s3 = .bool true ∧ Hid (EchoP w (b16) (#[.int .u8 6, .int .u8 0, .slice none 0 0, .slice (some ⟨w1.heap.size, 0, none⟩) 1 1, b16 a1, .int .u16 0]) (some ⟨w1.heap.size, 0, none⟩) [x] wx))
    case first =>
      have hne : ¬ w.heap.size + 1 = w.heap.size := by omega
      have hne2 : ¬ w.heap.size = w.heap.size + 1 := by omega
      have hz : w.heap.size + 1 < w1.heap.size := by have := HB1.out.size; omega
      have hzb : w.heap.size < w1.heap.size := by omega
      have hzx : bb < w1.heap.size := by omega
      have hkx : w1.cell? ⟨bb, off, none⟩ = some (b16 x) := (HB1.out.below.cell (p := ⟨bb, off, none⟩) hbb).trans hcx
      have hk0 : w1.cell? ⟨w.heap.size, 1, none⟩ = some (b16 a1) := HB1.out.one 1
      have hk2 : w1.cell? ⟨w.heap.size, 4, none⟩ = some (.slice (some ⟨bb, off, none⟩) 1 cw) := HB1.out.one 4
      have hb3 := (Below.refl w1.heap.size w1).alloc (Nat.le_refl _) (.cells #[b16 x] 22)
      have HRB : Hid (RepBlock (w1.alloc (.cells #[b16 x] 22)) (w.heap.size + 1)) := Lib.hid ((show RepBlock w1 (w.heap.size + 1) from ⟨_, _, _, _, _, _, HB1.out.h2⟩).below hb3 hz)
      have HR0 : Hid (RepBlock w1 (w.heap.size + 1)) := Lib.hid ⟨_, _, _, _, _, _, HB1.out.h2⟩
      have HRD : Hid (RepBlock (w1.alloc (.cells #[b16 x] 22)).drew (w.heap.size + 1)) := Lib.hid HRB.out
      have hzu := HR0.out.frozen
      obtain ⟨u0, hu0⟩ := HR0.out.cell 0 (by omega)
      obtain ⟨u1, hu1⟩ := HR0.out.cell 1 (by omega)
      obtain ⟨u2, hu2⟩ := HR0.out.cell 2 (by omega)
      obtain ⟨u3, hu3⟩ := HR0.out.cell 3 (by omega)
      obtain ⟨u4, hu4⟩ := HR0.out.cell 4 (by omega)
      obtain ⟨u5, hu5⟩ := HR0.out.cell 5 (by omega)
      have hzv := HRB.out.frozen
      obtain ⟨v0, hv0⟩ := HRB.out.cell 0 (by omega)
      obtain ⟨v1, hv1⟩ := HRB.out.cell 1 (by omega)
      obtain ⟨v2, hv2⟩ := HRB.out.cell 2 (by omega)
      obtain ⟨v3, hv3⟩ := HRB.out.cell 3 (by omega)
      obtain ⟨v4, hv4⟩ := HRB.out.cell 4 (by omega)
      obtain ⟨v5, hv5⟩ := HRB.out.cell 5 (by omega)
      have hzx := HRD.out.frozen
      obtain ⟨x0, hx0⟩ := HRD.out.cell 0 (by omega)
      obtain ⟨x1, hx1⟩ := HRD.out.cell 1 (by omega)
      obtain ⟨x2, hx2⟩ := HRD.out.cell 2 (by omega)
      obtain ⟨x3, hx3⟩ := HRD.out.cell 3 (by omega)
      obtain ⟨x4, hx4⟩ := HRD.out.cell 4 (by omega)
      obtain ⟨x5, hx5⟩ := HRD.out.cell 5 (by omega)
      go_region
      have HS := rsetAlloc_heap (W := w1) (g := w.heap.size + 1) (f := .int .u8 6) (b := .int .u8 0) (m := .slice none 0 0) (t := .slice (some ⟨w1.heap.size, 0, none⟩) 1 1) (ws := b16 a1) (bs := .int .u16 0) (o := .cells #[b16 x] 22) hz HR0.out
      have HN := Sl.new_at (f := b16) (setAll w1 (w.heap.size + 1) (.int .u8 6) (.int .u8 0) (.slice none 0 0) (.slice (some ⟨w1.heap.size, 0, none⟩) 1 1) (b16 a1) (.int .u16 0)) #[b16 x] 22 (0, 0) [x] 1 rfl rfl (by omega) w1.heap.size setAll_size.symm
      have HB2 := rset_below (W := w1) (g := w.heap.size + 1) (f := .int .u8 6) (b := .int .u8 0) (m := .slice none 0 0) (t := .slice (some ⟨w1.heap.size, 0, none⟩) 1 1) (ws := b16 a1) (bs := .int .u16 0) HB1.out.below (show w.heap.size ≤ w.heap.size + 1 by omega) (.cells #[b16 x] 22)
      unfold setAll at HS HN HB2
      have HS2 := Lib.hid (And.intro HS (And.intro HN HB2))
      have hsz := HB1.out.size
      clear HS HN HB2 hk0 hk2 hkx hb3 hzu hu0 hu1 hu2 hu3 hu4 hu5 hzv hv0 hv1 hv2 hv3 hv4 hv5 hzx hx0 hx1 hx2 hx3 hx4 hx5
      go_wp2_with fail
      go_meet
      exact ⟨rfl, Lib.hid (EchoP.drew ⟨HS2.out.1, HS2.out.2.1, HS2.out.2.2⟩)⟩
    case rest =>
      obtain ⟨rfl, HE⟩ := hcut
      have hsz := HB1.out.size
      go_wp2_with fail
      exact bodyPost_ret (v := .tuple #[.agg #[.int .u8 6, .int .u8 0, .slice none 0 0, .slice (some ⟨w1.heap.size, 0, none⟩) 1 1, b16 a1, .int .u16 0], .bool true]) (results_cell_row_tmp rfl _ _ (w.heap.size + 1) 45 _ (0, 0) _ rfl HE.out.row Try.underlying45 rfl (by kernel_rfl) _ rfl) rfl
        (readR_some (q := ⟨f1, 0, [], [x], a1, 0⟩) (ab := none) (cb := 0) (aw := some ⟨w1.heap.size, 0, none⟩) (cw := 1) HF.out (congrArg (fun z => Value.agg #[z, .int .u8 0, .slice none 0 0, .slice (some ⟨w1.heap.size, 0, none⟩) 1 1, b16 a1, .int .u16 0]) HF1.out.symm) ⟨HE.out.list, Sl.none_⟩ HE.out.below (fun y hy => by rcases hy with hy | hy <;> first | (cases hy; done) | (injection hy with hy; subst hy; show w.heap.size ≤ w1.heap.size; omega)))
  by_cases g15 : f1.toNat = 15
  · have HF : Hid (echoN ⟨f1, a1, m1, t1, ws, bs⟩ = some ⟨f1, 0, [], [], a1, m1⟩) := Lib.hid (by unfold echoN; rw [if_neg hz1', if_neg g5, if_neg g6, if_pos (.inl g15)])
    have k5 : ((f1.toNat : Int) == 5) = false := by simp; omega
    have k6 : ((f1.toNat : Int) == 6) = false := by simp; omega
    have k15 : ((f1.toNat : Int) == 15) = true := by simp; omega
    clear hz1 hz1' g5 g6 g15
    go_enter Try.func34, Try.ntmps34
    go_wp2_with fail
    refine (rRight_any ⟨f1, a1, m1, t1, ws, bs⟩ aw cw ab cb _ hnw hnb).mono ?_
    rw [HZ1.out]
    rintro e w1 ⟨rfl, hb⟩
    have HB1 : Hid (Boxed w #[b8 f1, b16 a1, b16 m1, b16 t1, .slice aw ws.length cw, .slice ab bs.length cb] zeroRC 26 45 w1) := Lib.hid (HB.out.on (hb.mono HB.out.size))
    clear hb
    have C1 := HB1.out.one
    go_wp2_with (refine wpList_store_row rfl 45 (.tmp 2) (.tmp 44) rfl (w.heap.size + 1) #[b8 f1, .int .u8 0, .slice none 0 0, .slice none 0 0, b16 a1, b16 m1] rfl rfl 45 zeroRC HB1.out.h2 (by kernel_rfl) (by kernel_rfl) (by kernel_rfl) ?_)
    have hBS := below_setRow HB1.out.below (show w.heap.size ≤ w.heap.size + 1 by omega) #[b8 f1, .int .u8 0, .slice none 0 0, .slice none 0 0, b16 a1, b16 m1]
    exact bodyPost_ret (v := .tuple #[.agg #[b8 f1, .int .u8 0, .slice none 0 0, .slice none 0 0, b16 a1, b16 m1], .bool true]) (results_cell_row_tmp rfl _ _ (w.heap.size + 1) 45 _ (0, 0) _ rfl (setRow_heap _ _ _ _ _ _ HB1.out.h2) Try.underlying45 rfl (by kernel_rfl) _ rfl) rfl (readR_some (q := ⟨f1, 0, [], [], a1, m1⟩) (aw := none) (cw := 0) (ab := none) (cb := 0) HF.out rfl (RepAt.nil rfl rfl) hBS (fun x hx => by rcases hx with hx | hx <;> cases hx))
  by_cases g16 : f1.toNat = 16
  · have HF : Hid (echoN ⟨f1, a1, m1, t1, ws, bs⟩ = some ⟨f1, 0, [], [], a1, m1⟩) := Lib.hid (by unfold echoN; rw [if_neg hz1', if_neg g5, if_neg g6, if_pos (.inr g16)])
    have k5 : ((f1.toNat : Int) == 5) = false := by simp; omega
    have k6 : ((f1.toNat : Int) == 6) = false := by simp; omega
    have k15 : ((f1.toNat : Int) == 15) = false := by simp; omega
    have k16 : ((f1.toNat : Int) == 16) = true := by simp; omega
    clear hz1 hz1' g5 g6 g15 g16
    go_enter Try.func34, Try.ntmps34
    go_wp2_with fail
    refine (rRight_any ⟨f1, a1, m1, t1, ws, bs⟩ aw cw ab cb _ hnw hnb).mono ?_
    rw [HZ1.out]
    rintro e w1 ⟨rfl, hb⟩
    have HB1 : Hid (Boxed w #[b8 f1, b16 a1, b16 m1, b16 t1, .slice aw ws.length cw, .slice ab bs.length cb] zeroRC 26 45 w1) := Lib.hid (HB.out.on (hb.mono HB.out.size))
    clear hb
    have C1 := HB1.out.one
    go_wp2_with (refine wpList_store_row rfl 45 (.tmp 2) (.tmp 44) rfl (w.heap.size + 1) #[b8 f1, .int .u8 0, .slice none 0 0, .slice none 0 0, b16 a1, b16 m1] rfl rfl 45 zeroRC HB1.out.h2 (by kernel_rfl) (by kernel_rfl) (by kernel_rfl) ?_)
    have hBS := below_setRow HB1.out.below (show w.heap.size ≤ w.heap.size + 1 by omega) #[b8 f1, .int .u8 0, .slice none 0 0, .slice none 0 0, b16 a1, b16 m1]
    exact bodyPost_ret (v := .tuple #[.agg #[b8 f1, .int .u8 0, .slice none 0 0, .slice none 0 0, b16 a1, b16 m1], .bool true]) (results_cell_row_tmp rfl _ _ (w.heap.size + 1) 45 _ (0, 0) _ rfl (setRow_heap _ _ _ _ _ _ HB1.out.h2) Try.underlying45 rfl (by kernel_rfl) _ rfl) rfl (readR_some (q := ⟨f1, 0, [], [], a1, m1⟩) (aw := none) (cw := 0) (ab := none) (cb := 0) HF.out rfl (RepAt.nil rfl rfl) hBS (fun x hx => by rcases hx with hx | hx <;> cases hx))
  have HF : Hid (echoN ⟨f1, a1, m1, t1, ws, bs⟩ = none) := Lib.hid (by unfold echoN; rw [if_neg hz1', if_neg g5, if_neg g6, if_neg (fun h => h.elim g15 g16)])
  have k5 : ((f1.toNat : Int) == 5) = false := by simp; omega
  have k6 : ((f1.toNat : Int) == 6) = false := by simp; omega
  have k15 : ((f1.toNat : Int) == 15) = false := by simp; omega
  have k16 : ((f1.toNat : Int) == 16) = false := by simp; omega
  clear hz1 hz1' g5 g6 g15 g16
  go_enter Try.func34, Try.ntmps34
  go_wp2_with fail
  refine (rRight_any ⟨f1, a1, m1, t1, ws, bs⟩ aw cw ab cb _ hnw hnb).mono ?_
  rw [HZ1.out]
  rintro e w1 ⟨rfl, hb⟩
  have HB1 : Hid (Boxed w #[b8 f1, b16 a1, b16 m1, b16 t1, .slice aw ws.length cw, .slice ab bs.length cb] zeroRC 26 45 w1) := Lib.hid (HB.out.on (hb.mono HB.out.size))
  clear hb
  have C1 := HB1.out.one
  go_wp2_with (refine wpList_store_row rfl 45 (.tmp 2) (.tmp 45) rfl (w.heap.size + 1) zeroRC rfl rfl 45 zeroRC HB1.out.h2 (by kernel_rfl) (by kernel_rfl) (by kernel_rfl) ?_)
  have hBS := below_setRow HB1.out.below (show w.heap.size ≤ w.heap.size + 1 by omega) zeroRC
  exact bodyPost_ret (v := .tuple #[.agg zeroRC, .bool false]) (results_cell_row_tmp rfl _ _ (w.heap.size + 1) 45 _ (0, 0) _ rfl (setRow_heap _ _ _ _ _ _ HB1.out.h2) Try.underlying45 rfl (by kernel_rfl) _ rfl) rfl (readR_none HF.out hBS)
end Go.Proofs.Ytenfcpdoingdeaa.RefW
/- The document's own answer on replies: which fits which request. -/
open Go.RowKit
namespace Go.Proofs.Ytenfcpdoingdeaa.RefW
open AskM AskW ReplyM ReplyW Mem

theorem any_drop {l : List Bool} {k : Nat} (h : l[k]? = some false) : anyOn (l.drop k) = anyOn (l.drop (k + 1)) := by
  have hk := (List.getElem?_eq_some_iff.1 h).1
  rw [List.drop_eq_getElem_cons hk]
  have he := (List.getElem?_eq_some_iff.1 h).2
  rw [he]
  simp [anyOn]
theorem any_dropOn {l : List Bool} {m k : Nat} (h : l[k]? = some true) (hm : m ≤ k) : anyOn (l.drop m) = true := by
  unfold anyOn
  refine List.any_eq_true.2 ⟨true, List.mem_of_getElem? (i := k - m) ?_, rfl⟩
  rw [List.getElem?_drop, show m + (k - m) = k by omega, h]
theorem any_dropOff {l : List Bool} {k : Nat} (h : l.length ≤ k) : anyOn (l.drop k) = false := by
  rw [List.drop_of_length_le h]; rfl
theorem bits_eight {r : Rep} (h : rrightN r = true) (hx : ¬ 0 < r.ex.toNat) (hf : r.fn.toNat = 1 ∨ r.fn.toNat = 2) : r.bits.length % 8 = 0 ∧ r.bits.length ≤ 2000 := by
  unfold rrightN kindForN at h
  rw [if_neg hx] at h
  have hk : kindOfN r.fn.toNat = some .bitsR := by
    rcases hf with hf | hf <;> rw [hf] <;> rfl
  rw [hk] at h
  have h2 := (rightK_iff.1 h).1
  simp only [countK, Bool.and_eq_true, decide_eq_true_eq] at h2
  exact ⟨h2.2, h2.1.2⟩
theorem words_small {r : Rep} (h : rrightN r = true) (hx : ¬ 0 < r.ex.toNat) (hf : r.fn.toNat = 3 ∨ r.fn.toNat = 4 ∨ r.fn.toNat = 23) : r.words.length ≤ 125 := by
  unfold rrightN kindForN at h
  rw [if_neg hx] at h
  have hk : kindOfN r.fn.toNat = some .wordsR := by
    rcases hf with hf | hf | hf <;> rw [hf] <;> rfl
  rw [hk] at h
  have h2 := (rightK_iff.1 h).1
  simp only [countK, Bool.and_eq_true, decide_eq_true_eq] at h2
  exact h2.2
set_option maxRecDepth 100000 in
set_option maxHeartbeats 8000000 in
theorem rFits_any (a : Req) (aw : Option Addr) (cw : Nat) (ab : Option Addr) (cb : Nat) (r : Rep) (rw_ : Option Addr) (dw : Nat) (rb : Option Addr) (db : Nat) (w : World) (hA : AskAt w w.heap.size a aw cw ab cb) (hR : RepAt w w.heap.size r rw_ dw rb db)
    (hnw : a.words.length ≤ 1000000) (hnb : a.bits.length ≤ 1000000) (hrw : r.words.length ≤ 1000000) (hrb : r.bits.length ≤ 1000000) :
    Calls Try.prog 37 #[askV a aw cw ab cb, repV r rw_ dw rb db] w (Says (.bool (fitsN a r)) w) := by
  have hB0 : Boxed w #[b8 a.fn, b16 a.at_, b16 a.many, b16 a.to_, .slice aw a.words.length cw, .slice ab a.bits.length cb] #[b8 r.fn, b8 r.ex, .slice rb r.bits.length db, .slice rw_ r.words.length dw, b16 r.at_, b16 r.many] 26 45 ((w.alloc (.cells #[b8 a.fn, b16 a.at_, b16 a.many, b16 a.to_, .slice aw a.words.length cw, .slice ab a.bits.length cb] 26)).alloc (.cells #[b8 r.fn, b8 r.ex, .slice rb r.bits.length db, .slice rw_ r.words.length dw, b16 r.at_, b16 r.many] 45)) := Below.refl _ _
  have HB := Lib.hid hB0
  have HR := Lib.hid hR
  have HA := Lib.hid hA
  clear hA hR hB0
  obtain ⟨f1, a1, m1, t1, ws, bs⟩ := a
  obtain ⟨g1, x1, b1, s1, c1, n1⟩ := r
  simp only at hnw hnb hrw hrb
  have hm1 := m1.toNat_lt
  have hf8 := f1.toNat_lt
  obtain ⟨z1, hz1⟩ : ∃ z, rightN ⟨f1, a1, m1, t1, ws, bs⟩ = z := ⟨_, rfl⟩
  obtain ⟨z2, hz2⟩ : ∃ z, rrightN ⟨g1, x1, b1, s1, c1, n1⟩ = z := ⟨_, rfl⟩
  have HZ1 := Lib.hid hz1
  have HZ2 := Lib.hid hz2
  have HF1 : Hid (rightN ⟨f1, a1, m1, t1, ws, bs⟩ = false → fitsN ⟨f1, a1, m1, t1, ws, bs⟩ ⟨g1, x1, b1, s1, c1, n1⟩ = false) := Lib.hid (fun h => by unfold fitsN fitsBits fitsWords fitsEcho; rw [h]; simp)
  have HF2 : Hid (rrightN ⟨g1, x1, b1, s1, c1, n1⟩ = false → fitsN ⟨f1, a1, m1, t1, ws, bs⟩ ⟨g1, x1, b1, s1, c1, n1⟩ = false) := Lib.hid (fun h => by unfold fitsN fitsBits fitsWords fitsEcho; rw [h]; simp)
  have HF3 : Hid (¬ f1 = g1 → fitsN ⟨f1, a1, m1, t1, ws, bs⟩ ⟨g1, x1, b1, s1, c1, n1⟩ = false) := Lib.hid (fun h => by unfold fitsN fitsBits fitsWords fitsEcho; simp [h])
  clear hz1 hz2
  cases z1
  · have HV := Lib.hid (HF1.out HZ1.out)
    rw [HV.out]
    go_enter Try.func37, Try.ntmps37
    go_wp2_with fail
    refine (rRight_any ⟨f1, a1, m1, t1, ws, bs⟩ aw cw ab cb _ hnw hnb).mono ?_
    rw [HZ1.out]
    rintro e w1 ⟨rfl, hb⟩
    have HB1 := Lib.hid (HB.out.on (hb.mono HB.out.size))
    clear hb
    go_wp2_with fail
    go_ret
    exact ⟨rfl, HB1.out.below⟩
  have HS1 : Hid (∀ (Q : Ending → World → Prop), (∀ w1, Boxed w #[b8 f1, b16 a1, b16 m1, b16 t1, .slice aw ws.length cw, .slice ab bs.length cb] #[b8 g1, b8 x1, .slice rb b1.length db, .slice rw_ s1.length dw, b16 c1, b16 n1] 26 45 w1 → Q (.returned (.bool true)) w1) → Calls Try.prog 11 #[askV ⟨f1, a1, m1, t1, ws, bs⟩ aw cw ab cb] ((w.alloc (.cells #[b8 f1, b16 a1, b16 m1, b16 t1, .slice aw ws.length cw, .slice ab bs.length cb] 26)).alloc (.cells #[b8 g1, b8 x1, .slice rb b1.length db, .slice rw_ s1.length dw, b16 c1, b16 n1] 45)) Q) := Lib.hid (by
    intro Q hQ
    refine (rRight_any ⟨f1, a1, m1, t1, ws, bs⟩ aw cw ab cb _ hnw hnb).mono ?_
    rw [HZ1.out]
    rintro e w1 ⟨rfl, hb⟩
    exact hQ w1 (HB.out.on (hb.mono HB.out.size)))
  have HS2 : Hid (∀ (Q : Ending → World → Prop) (w1 : World), Boxed w #[b8 f1, b16 a1, b16 m1, b16 t1, .slice aw ws.length cw, .slice ab bs.length cb] #[b8 g1, b8 x1, .slice rb b1.length db, .slice rw_ s1.length dw, b16 c1, b16 n1] 26 45 w1 → (∀ w2, Boxed w #[b8 f1, b16 a1, b16 m1, b16 t1, .slice aw ws.length cw, .slice ab bs.length cb] #[b8 g1, b8 x1, .slice rb b1.length db, .slice rw_ s1.length dw, b16 c1, b16 n1] 26 45 w2 → Q (.returned (.bool z2)) w2) → Calls Try.prog 30 #[repV ⟨g1, x1, b1, s1, c1, n1⟩ rw_ dw rb db] w1 Q) := Lib.hid (by
    intro Q w1 hb1 hQ
    refine (rRRight_any ⟨g1, x1, b1, s1, c1, n1⟩ rw_ dw rb db w1 hrw hrb).mono ?_
    rw [HZ2.out]
    rintro e w2 ⟨rfl, hb⟩
    exact hQ w2 (hb1.on (hb.mono hb1.size)))
  cases z2
  · have HV := Lib.hid (HF2.out HZ2.out)
    rw [HV.out]
    clear HF1 HF2 HF3
    go_enter Try.func37, Try.ntmps37
    go_wp2_with fail
    refine HS1.out _ fun w1 hb1 => ?_
    have HB1 := Lib.hid hb1
    have C2 := hb1.two
    clear hb1
    go_wp2_with fail
    refine HS2.out _ _ HB1.out fun w2 hb2 => ?_
    have HB2 := Lib.hid hb2
    clear hb2 C2
    go_wp2_with fail
    go_ret
    exact ⟨rfl, HB2.out.below⟩
  by_cases hfg : f1 = g1
  case neg =>
    have hne : ((f1.toNat : Int) != (g1.toNat : Int)) = true := by
      have : ¬ f1.toNat = g1.toNat := fun h => hfg (UInt8.toNat_inj.1 h)
      simp; omega
    have HV := Lib.hid (HF3.out hfg)
    rw [HV.out]
    clear hfg HF1 HF2 HF3
    go_enter Try.func37, Try.ntmps37
    go_wp2_with fail
    refine HS1.out _ fun w1 hb1 => ?_
    have HB1 := Lib.hid hb1
    have C2 := hb1.two
    clear hb1
    go_wp2_with fail
    refine HS2.out _ _ HB1.out fun w2 hb2 => ?_
    have HB2 := Lib.hid hb2
    have D1 := hb2.one
    have D2 := hb2.two
    clear hb2 C2
    go_wp2_with fail
    go_ret
    exact ⟨rfl, HB2.out.below⟩
  subst hfg
  have hne : ((f1.toNat : Int) != (f1.toNat : Int)) = false := by simp
  have hfn := right_fn HZ1.out
  simp only at hfn
  by_cases hx : 0 < x1.toNat
  · have e1 : ((x1.toNat : Int) != 0) = true := by simp; omega
    have HV : Hid (fitsN ⟨f1, a1, m1, t1, ws, bs⟩ ⟨f1, x1, b1, s1, c1, n1⟩ = true) := Lib.hid (by
      unfold fitsN fitsBits fitsWords fitsEcho
      rw [HZ1.out, HZ2.out, decide_eq_true hx]
      simp only
      rcases hfn with h | h | h
      · rw [if_pos h]; simp
      · rw [if_neg (by omega), if_pos h]; simp
      · rw [if_neg (by omega), if_neg (by omega), if_pos h]; simp)
    rw [HV.out]
    clear hx hfn HF1 HF2 HF3
    go_enter Try.func37, Try.ntmps37
    go_wp2_with fail
    refine HS1.out _ fun w1 hb1 => ?_
    have HB1 := Lib.hid hb1
    have C2 := hb1.two
    clear hb1
    go_wp2_with fail
    refine HS2.out _ _ HB1.out fun w2 hb2 => ?_
    have HB2 := Lib.hid hb2
    have D1 := hb2.one
    have D2 := hb2.two
    clear hb2 C2
    go_wp2_with fail
    go_ret
    exact ⟨rfl, HB2.out.below⟩
  have e1 : ((x1.toNat : Int) != 0) = false := by simp; omega
  have HEC := Lib.hid (fun W (hb : Below w.heap.size w W) => rEcho_any ⟨f1, a1, m1, t1, ws, bs⟩ aw cw ab cb W (HA.out.below hb) hnw hnb)
  cases hec : echoN ⟨f1, a1, m1, t1, ws, bs⟩ with
  | some q =>
    have HV : Hid (fitsN ⟨f1, a1, m1, t1, ws, bs⟩ ⟨f1, x1, b1, s1, c1, n1⟩ = decide (q = ⟨f1, x1, b1, s1, c1, n1⟩)) := Lib.hid (by
      have h3 : f1.toNat = 5 ∨ f1.toNat = 6 ∨ f1.toNat = 15 ∨ f1.toNat = 16 := by
        rcases hfn with h | h | h
        · exfalso; unfold echoN at hec; rw [if_neg (by rw [HZ1.out]; simp)] at hec; simp only at hec; rw [if_neg (by omega), if_neg (by omega), if_neg (by omega)] at hec; cases hec
        · exfalso; unfold echoN at hec; rw [if_neg (by rw [HZ1.out]; simp)] at hec; simp only at hec; rw [if_neg (by omega), if_neg (by omega), if_neg (by omega)] at hec; cases hec
        · exact h
      unfold fitsN fitsEcho
      simp only
      rw [if_neg (by omega), if_neg (by omega), if_pos h3, HZ1.out, HZ2.out, hec, decide_eq_false hx]
      simp)
    rw [HV.out]
    rw [hec] at HEC
    clear hx hfn HF1 HF2 HF3 hec
    obtain ⟨qf, qe, qb, qw, qa, qm⟩ := q
    go_enter Try.func37, Try.ntmps37
    go_wp2_with fail
    refine HS1.out _ fun w1 hb1 => ?_
    have HB1 := Lib.hid hb1
    have C2 := hb1.two
    clear hb1
    go_wp2_with fail
    refine HS2.out _ _ HB1.out fun w2 hb2 => ?_
    have HB2 := Lib.hid hb2
    have D1 := hb2.one
    have D2 := hb2.two
    clear hb2 C2
    go_wp2_with fail
    refine (HEC.out w2 HB2.out.below).mono ?_
    rintro e w3 ⟨ew, ecw, eb, ecb, rfl, hE, hb3, -⟩
    simp only [Option.getD_some, Option.isSome_some] at hE ⊢
    have hbo := (Below.refl w3.heap.size w3).alloc (Nat.le_refl _) (.cells #[b8 qf, b8 qe, .slice eb qb.length ecb, .slice ew qw.length ecw, b16 qa, b16 qm] 45)
    have HB3 := Lib.hid ((HB2.out.on (hb3.mono HB2.out.size)).on (hbo.mono (HB2.out.on (hb3.mono HB2.out.size)).size))
    have HSAM := Lib.hid (rRSame_any ⟨qf, qe, qb, qw, qa, qm⟩ ⟨f1, x1, b1, s1, c1, n1⟩ ew ecw eb ecb rw_ dw rb db _ (RepAt.below hE hbo) (RepAt.up HR.out HB3.out.below (Nat.le_refl _)))
    generalize decide ((⟨qf, qe, qb, qw, qa, qm⟩ : Rep) = ⟨f1, x1, b1, s1, c1, n1⟩) = dd at *
    have D2 := HB3.out.two
    have HX := heap_alloc_new w3 (.cells #[b8 qf, b8 qe, .slice eb qb.length ecb, .slice ew qw.length ecw, b16 qa, b16 qm] 45)
    have hxc := fun o => cell_of_row _ _ o _ _ _ HX
    clear D1 hE hb3 hbo HEC HX
    go_wp2_with fail
    refine HSAM.out.mono ?_
    rintro e w4 ⟨rfl, hb4⟩
    have HB4 := Lib.hid (HB3.out.on (hb4.mono HB3.out.size))
    clear hb4 D2 hxc
    go_wp2_with fail
    go_ret
    exact ⟨rfl, HB4.out.below⟩
  | none =>
    rw [hec] at HEC
    have h3 : ¬ (f1.toNat = 5 ∨ f1.toNat = 6 ∨ f1.toNat = 15 ∨ f1.toNat = 16) := fun h => by
      unfold echoN at hec
      rw [if_neg (by rw [HZ1.out]; simp)] at hec
      simp only at hec
      split at hec
      · cases hec
      split at hec
      · cases hec
      split at hec
      · cases hec
      · omega
    clear hec
    by_cases hbit : f1.toNat = 1 ∨ f1.toNat = 2
    case neg =>
      have hw : f1.toNat = 3 ∨ f1.toNat = 4 ∨ f1.toNat = 23 := by omega
      have HV : Hid (fitsN ⟨f1, a1, m1, t1, ws, bs⟩ ⟨f1, x1, b1, s1, c1, n1⟩ = ((s1.length : Int) == (m1.toNat : Int))) := Lib.hid (by
        unfold fitsN fitsWords
        simp only
        rw [if_neg hbit, if_pos hw, HZ1.out, HZ2.out, decide_eq_false hx]
        simp
        rw [Bool.eq_iff_iff]; simp; omega)
      have hs125 := words_small HZ2.out hx hw
      simp only at hs125
      have tg : decide ((2 : Int) < (f1.toNat : Int)) = true := by simp; omega
      rw [HV.out]
      clear hx hfn HF1 HF2 HF3 h3 hbit hw
      go_enter Try.func37, Try.ntmps37
      go_wp2_with fail
      refine HS1.out _ fun w1 hb1 => ?_
      have HB1 := Lib.hid hb1
      have C2 := hb1.two
      clear hb1
      go_wp2_with fail
      refine HS2.out _ _ HB1.out fun w2 hb2 => ?_
      have HB2 := Lib.hid hb2
      have D1 := hb2.one
      have D2 := hb2.two
      clear hb2 C2
      go_wp2_with fail
      refine (HEC.out w2 HB2.out.below).mono ?_
      rintro e w3 ⟨ew, ecw, eb, ecb, rfl, hE, hb3, -⟩
      simp only [Option.getD_none, Option.isSome_none] at hE ⊢
      have hbo := fun o => (Below.refl w3.heap.size w3).alloc (Nat.le_refl _) o
      have HB3 := fun o => Lib.hid ((HB2.out.on (hb3.mono HB2.out.size)).on ((hbo o).mono (HB2.out.on (hb3.mono HB2.out.size)).size))
      have D3 := fun o => (HB3 o).out.one
      have D4 := fun o => (HB3 o).out.two
      clear D1 D2 hE hb3 hbo HEC
      go_wp2_with fail
      go_ret
      exact ⟨rfl, (HB3 _).out.below⟩
    · have hl8 := bits_eight HZ2.out hx hbit
      simp only at hl8
      have HVV : Hid (fitsN ⟨f1, a1, m1, t1, ws, bs⟩ ⟨f1, x1, b1, s1, c1, n1⟩ = filledN b1 m1.toNat) := Lib.hid (by
        unfold fitsN fitsBits
        simp only
        rw [if_pos hbit, HZ1.out, HZ2.out, decide_eq_false hx]
        simp)
      have tg : decide ((2 : Int) < (f1.toNat : Int)) = false := by simp; omega
      rw [HVV.out]
      clear hx hfn HF1 HF2 HF3 h3 hbit HVV
      by_cases hlow : b1.length < m1.toNat
      · have HV : Hid (filledN b1 m1.toNat = false) := Lib.hid (by unfold filledN; rw [decide_eq_false (by omega)]; rfl)
        have ta : decide ((b1.length : Int) < (m1.toNat : Int)) = true := by simp; omega
        have tb : decide (b1.length < m1.toNat) = true := by simp; omega
        rw [HV.out]
        clear hlow HV
        go_enter Try.func37, Try.ntmps37
        go_wp2_with fail
        refine HS1.out _ fun w1 hb1 => ?_
        have HB1 := Lib.hid hb1
        have C2 := hb1.two
        clear hb1
        go_wp2_with fail
        refine HS2.out _ _ HB1.out fun w2 hb2 => ?_
        have HB2 := Lib.hid hb2
        have D1 := hb2.one
        have D2 := hb2.two
        clear hb2 C2
        go_wp2_with fail
        refine (HEC.out w2 HB2.out.below).mono ?_
        rintro e w3 ⟨ew, ecw, eb, ecb, rfl, hE, hb3, -⟩
        simp only [Option.getD_none, Option.isSome_none] at hE ⊢
        have hbo := fun o => (Below.refl w3.heap.size w3).alloc (Nat.le_refl _) o
        have HB3 := fun o => Lib.hid ((HB2.out.on (hb3.mono HB2.out.size)).on ((hbo o).mono (HB2.out.on (hb3.mono HB2.out.size)).size))
        have D3 := fun o => (HB3 o).out.one
        have D4 := fun o => (HB3 o).out.two
        clear D1 D2 hE hb3 hbo HEC
        go_wp2_with fail
        go_ret
        exact ⟨rfl, (HB3 _).out.below⟩
      have ta : decide ((b1.length : Int) < (m1.toNat : Int)) = false := by simp; omega
      have tb : decide (b1.length < m1.toNat) = false := by simp; omega
      by_cases hhigh : m1.toNat + 8 ≤ b1.length
      · have HV : Hid (filledN b1 m1.toNat = false) := Lib.hid (by unfold filledN; rw [decide_eq_false (by omega)]; rfl)
        have tc : decide ((m1.toNat : Int) + 8 ≤ (b1.length : Int)) = true := by simp; omega
        rw [HV.out]
        clear hlow hhigh HV
        go_enter Try.func37, Try.ntmps37
        go_wp2_with fail
        refine HS1.out _ fun w1 hb1 => ?_
        have HB1 := Lib.hid hb1
        have C2 := hb1.two
        clear hb1
        go_wp2_with fail
        refine HS2.out _ _ HB1.out fun w2 hb2 => ?_
        have HB2 := Lib.hid hb2
        have D1 := hb2.one
        have D2 := hb2.two
        clear hb2 C2
        go_wp2_with fail
        refine (HEC.out w2 HB2.out.below).mono ?_
        rintro e w3 ⟨ew, ecw, eb, ecb, rfl, hE, hb3, -⟩
        simp only [Option.getD_none, Option.isSome_none] at hE ⊢
        have hbo := fun o => (Below.refl w3.heap.size w3).alloc (Nat.le_refl _) o
        have HB3 := fun o => Lib.hid ((HB2.out.on (hb3.mono HB2.out.size)).on ((hbo o).mono (HB2.out.on (hb3.mono HB2.out.size)).size))
        have D3 := fun o => (HB3 o).out.one
        have D4 := fun o => (HB3 o).out.two
        clear D1 D2 hE hb3 hbo HEC
        go_wp2_with fail
        go_ret
        exact ⟨rfl, (HB3 _).out.below⟩
      have tc : decide ((m1.toNat : Int) + 8 ≤ (b1.length : Int)) = false := by simp; omega
      have HV : Hid (filledN b1 m1.toNat = !anyOn (b1.drop m1.toNat)) := Lib.hid (by unfold filledN; rw [decide_eq_true (by omega)]; rfl)
      rw [HV.out]
      have hml : m1.toNat ≤ b1.length := by omega
      have hl2000 := hl8.2
      clear hlow hhigh HV hl8
      go_enter Try.func37, Try.ntmps37
      go_wp2_with fail
      refine HS1.out _ fun w1 hb1 => ?_
      have HB1 := Lib.hid hb1
      have C2 := hb1.two
      clear hb1
      go_wp2_with fail
      refine HS2.out _ _ HB1.out fun w2 hb2 => ?_
      have HB2 := Lib.hid hb2
      have D1 := hb2.one
      have D2 := hb2.two
      clear hb2 C2
      go_wp2_with fail
      refine (HEC.out w2 HB2.out.below).mono ?_
      rintro e w3 ⟨ew, ecw, eb, ecb, rfl, hE, hb3, -⟩
      simp only [Option.getD_none, Option.isSome_none] at hE ⊢
      have hbo := fun o => (Below.refl w3.heap.size w3).alloc (Nat.le_refl _) o
      have HB3 := fun o => Lib.hid ((HB2.out.on (hb3.mono HB2.out.size)).on ((hbo o).mono (HB2.out.on (hb3.mono HB2.out.size)).size))
      have D3 := fun o => (HB3 o).out.one
      have D4 := fun o => (HB3 o).out.two
      clear D1 D2 hE hb3 hbo HEC
      go_wp2_with fail
      go_loopw [8] (fun i wr => ∃ k : Nat, k ≤ b1.length ∧ m1.toNat ≤ k ∧ i = .int .i64 (k : Int) ∧ Hid (anyOn (b1.drop m1.toNat) = anyOn (b1.drop k)) ∧ Boxed w #[b8 f1, b16 a1, b16 m1, b16 t1, .slice aw ws.length cw, .slice ab bs.length cb] #[b8 f1, b8 x1, .slice rb b1.length db, .slice rw_ s1.length dw, b16 c1, b16 n1] 26 45 wr) (fun i _ => b1.length - (intOf i).toNat)
      case atStart => exact ⟨m1.toNat, hml, Nat.le_refl _, rfl, rfl, (HB3 _).out⟩
      case round =>
        obtain ⟨k, hk, hmk, rfl, HN, hbx⟩ := hrel
        have HBX := Lib.hid hbx
        have E2 := hbx.two
        have HRB := Lib.hid (RepAt.up HR.out hbx.below (Nat.le_refl _))
        clear hbx D3 D4
        by_cases hlt : k < b1.length
        · have tk : decide ((k : Int) < (b1.length : Int)) = true := by simp; omega
          obtain ⟨b7, o7, y, hab, _, hy, hcy⟩ := HRB.out.bits.at_ (k := k) hlt
          simp only at hab hy
          subst hab
          have j1 : (0 : Int) ≤ (k : Int) := by omega
          have j2 : (k : Int) < (b1.length : Int) := by omega
          cases y
          · have HN2 := Lib.hid (HN.out.trans (any_drop hy))
            clear hy
            go_wp2_with fail
            go_roundw
            case rel => exact ⟨k + 1, by omega, by omega, by go_num, HN2.out, HBX.out⟩
            case measure => simp [intOf]; omega
          · have HT := Lib.hid (any_dropOn hy hmk)
            clear hy
            go_wp2_with fail
            go_ret
            exact ⟨by rw [HT.out]; rfl, HBX.out.below⟩
        · have tk : decide ((k : Int) < (b1.length : Int)) = false := by simp; omega
          have tk2 : decide (k < b1.length) = false := by simp; omega
          have HT : Hid (anyOn (b1.drop m1.toNat) = false) := Lib.hid (by rw [HN.out]; exact any_dropOff (by omega))
          clear HN hlt
          go_wp2_with fail
          go_ret
          exact ⟨by rw [HT.out]; rfl, HBX.out.below⟩
end Go.Proofs.Ytenfcpdoingdeaa.RefW
