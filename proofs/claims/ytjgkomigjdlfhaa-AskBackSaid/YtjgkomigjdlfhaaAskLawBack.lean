/- The law AskBack, walked. -/
import Derived.Test.YtjgkomigjdlfhaaAskLawOne
import Derived.Test.YtjgkomigjdlfhaaQuiet
import Derived.Test.YtjgkomigjdlfhaaBack
open Go.RowKit
namespace Go.Proofs.Ytjgkomigjdlfhaa.AskW
open AskM Mem

theorem enters_same (args : Array Value) (w : World) : (callFunc 20 args).run Try.prog w = .ok (.enter 20 args) w := by
  have h := Try.func20
  unfold callFunc
  rw [Sem.run_bind]
  simp only [run_program, Result.andThen_ok, h]
  have e1 : (Try.f20.name == "runtime.NumGoroutine") = false := by kernel_rfl
  have e2 : Try.f20.body.isNone = false := by kernel_rfl
  rw [e1, e2]
  rfl
theorem AskAt.up {w w' : World} {B : Nat} {a : Req} {aw ab : Option Addr} {cw cb : Nat} (h : AskAt w B a aw cw ab cb) (hb : Below w.heap.size w w') (hB : B ≤ w.heap.size) : AskAt w' w'.heap.size a aw cw ab cb :=
  ⟨(h.words.below hb hB).more (Nat.le_trans hB hb.size), (h.bits.below hb hB).more (Nat.le_trans hB hb.size)⟩
theorem first_of {w : World} {B n c b o : Nat} {l : List UInt8} {x : UInt8} (h : Sl b8 w B (some ⟨b, o, none⟩) n c l) (hn : 0 < n) (hx : l.getD 0 0 = x) : w.cell? ⟨b, o, none⟩ = some (b8 x) := by
  obtain ⟨b', o', y, e, _, hy, hc⟩ := h.at_ hn
  injection e with e
  injection e with e1 e2 e3
  subst e1 e2
  have : y = x := by rw [← hx]; simp [List.getD, hy]
  rw [← this]
  exact hc
theorem b8_one : ∀ x : UInt8, (b8 x).oneCell' = true := fun _ => rfl

set_option maxRecDepth 100000 in
set_option maxHeartbeats 40000000 in
theorem AskBack_walk (a : Req) (aw : Option Addr) (cw : Nat) (ab : Option Addr) (cb : Nat) (hv : Option Addr) (m c : Nat) (lh : List UInt8) (w : World) (hA : AskAt w w.heap.size a aw cw ab cb) (hS : Sl b8 w w.heap.size hv m c lh) :
    Calls Try.prog 4 #[askV a aw cw ab cb, .slice hv m c] w (Says (.bool true) w) := by
  have l1 := len_le hA.words
  have l2 := len_le hA.bits
  have l3 := len_le hS
  have l4 := hS.len
  have HS := Lib.hid hS
  have HA := Lib.hid hA
  clear hA hS
  obtain ⟨f1, a1, m1, t1, ws, bs⟩ := a
  simp only at l1 l2
  by_cases h1 : ws.length ≤ 200 ∧ bs.length ≤ 2100
  case neg =>
    have hx := Lib.hid (few_false h1)
    clear h1
    go_enter Try.func4, Try.ntmps4
    go_wp2_with fail
    refine (Few_any _ _ _ _ _ _ _ l1 l2).mono ?_
    rintro e w1 ⟨rfl, rfl⟩
    rw [hx.out]
    go_wp2_with fail
    refine (awake_any _).mono ?_
    rintro e w1 ⟨rfl, hb⟩
    go_wp2_with fail
    go_ret
    exact Says.mk (((Below.refl _ _).alloc (Nat.le_refl _) _).trans (hb.mono (by simp)))
  have hx1 := Lib.hid (few_true h1.1 h1.2)
  by_cases h3 : 20 < m
  · have h3' : decide (20 < (m : Int)) = true := by simp; omega
    clear h1
    go_enter Try.func4, Try.ntmps4
    go_wp2_with fail
    refine (Few_any _ _ _ _ _ _ _ l1 l2).mono ?_
    rintro e w1 ⟨rfl, rfl⟩
    rw [hx1.out]
    go_wp2_with fail
    refine (awake_any _).mono ?_
    rintro e w1 ⟨rfl, hb⟩
    go_wp2_with fail
    go_ret
    exact Says.mk (((Below.refl _ _).alloc (Nat.le_refl _) _).trans (hb.mono (by simp)))
  have h3' : decide (20 < (m : Int)) = false := by simp; omega
  have hws : ws.length ≤ 1000000 := by omega
  have hbs : bs.length ≤ 1000000 := by omega
  have hbox := Box1.new w #[.int .u8 (f1.toNat : Int), .int .u16 (a1.toNat : Int), .int .u16 (m1.toNat : Int), .int .u16 (t1.toNat : Int), .slice aw ws.length cw, .slice ab bs.length cb] 26
  have hBY := Bytes_any ⟨f1, a1, m1, t1, ws, bs⟩ aw cw ab cb _ (HA.out.below hbox.below) hws hbs
  cases hbn : bytesN ⟨f1, a1, m1, t1, ws, bs⟩ with
  | none =>
    have hrf : rightN ⟨f1, a1, m1, t1, ws, bs⟩ = false := rightN_false.2 hbn
    rw [hbn] at hBY
    have HBY := Lib.hid hBY
    have HRF := Lib.hid hrf
    have HB1 := Lib.hid hbox
    clear hbn hrf hBY hbox h1
    go_enter Try.func4, Try.ntmps4
    go_wp2_with fail
    refine (Few_any _ _ _ _ _ _ _ l1 l2).mono ?_
    rintro e w1 ⟨rfl, rfl⟩
    rw [hx1.out]
    go_wp2_with fail
    refine HBY.out.mono ?_
    rintro e w1 ⟨rfl, hb⟩
    have HB2 := Lib.hid (HB1.out.on hb)
    clear hb
    have C1 := HB2.out.c
    go_wp2_with fail
    refine (Right_any ⟨f1, a1, m1, t1, ws, bs⟩ aw cw ab cb _ hws hbs).mono ?_
    rw [HRF.out]
    rintro e w2 ⟨rfl, hb⟩
    have HB3 := Lib.hid (HB2.out.on hb)
    clear hb C1
    go_wp2_with fail
    refine (awake_any _).mono ?_
    rintro e w3 ⟨rfl, hb⟩
    go_wp2_with fail
    go_ret
    exact Says.mk (HB3.out.below.trans (hb.mono HB3.out.below.size))
  | some la =>
    obtain ⟨hf1, hf2, hf3, hf4⟩ := bytes_facts hbn
    have hrf : rightN ⟨f1, a1, m1, t1, ws, bs⟩ = true := rightN_iff.2 ⟨la, hbn⟩
    have HPB := Lib.hid (parse_bytes hbn)
    have HPT := Lib.hid (fun k (hk : k < la.length) => parse_take hbn hk)
    have HPM := Lib.hid (fun c (hc : c ≠ []) => parse_more hbn (c := c) hc)
    rw [hbn] at hBY
    have HBY := Lib.hid hBY
    have HRF := Lib.hid hrf
    have HB1 := Lib.hid hbox
    have HF4 := Lib.hid hf4
    clear hbn hrf hBY hbox h1 hf1 hf4
    obtain ⟨i0, hi, hz0, hz1, hz2⟩ := info_parts info8
    have hz2' : i0.bytes = 1 := hz2
    generalize hn : la.length = n at *
    have HN := Lib.hid hn
    clear hn
    go_enter Try.func4, Try.ntmps4
    go_wp2_with fail
    refine (Few_any _ _ _ _ _ _ _ l1 l2).mono ?_
    rintro e w1 ⟨rfl, rfl⟩
    rw [hx1.out]
    go_wp2_with fail
    refine HBY.out.mono ?_
    rintro e w1 ⟨x1, c1, rfl, hs, hb, hx⟩
    have HB2 := Lib.hid (HB1.out.on hb)
    clear HBY
    obtain ⟨bb, ob, rfl, hbb, -⟩ := hs.cells (by have := HN.out; omega)
    have hbl : w.heap.size < bb := by have := hx _ rfl; simp at this; omega
    have HSB : Hid (Sl b8 w1 w1.heap.size (some ⟨bb, ob, none⟩) n c1 la) := by rw [HN.out] at hs; exact Lib.hid hs
    rw [HN.out]
    clear hb hs hx
    have C1 := HB2.out.c
    go_wp2_with fail
    refine (Right_any ⟨f1, a1, m1, t1, ws, bs⟩ aw cw ab cb _ hws hbs).mono ?_
    rw [HRF.out]
    rintro e w2 ⟨rfl, hb⟩
    have HB3 := Lib.hid (HB2.out.on hb)
    have HZ2 := Lib.hid hb.size
    have HBW1 := Lib.hid hb
    have hS2 := (HSB.out.below hb (Nat.le_refl _)).more hb.size
    clear hb C1 HB2 hx1 h3'
    go_wp2_with (at_builtin; go_loud (refine wpList_append_sl (f := b8) b8_one rfl (.tmp 46) (.tmp 47) 27 rfl w2.heap.size 5 i0 (.int .u8 0) 1 Try.underlying27 hi hz0 hz1 hz2' rfl (.slice (some ⟨w2.heap.size, 0, none⟩) 0 0) 0 [] rfl (World.ownsRow_made w2 #[] 0 (Nat.le_refl _) (by unfold maxLen; omega) rfl) (some ⟨bb, ob, none⟩) n c1 rfl (hS2.alloc (Nat.le_refl _) _) (by unfold maxLen; omega) (by omega) (by simp) ?_; intro v4 w4 hown4 hgrow4; simp only [Nat.zero_add, List.nil_append] at hown4; obtain ⟨g, cap, hv4, hg1, hg2, hov, hSg⟩ := own_at hown4 (by omega); subst hv4; have HW4 := Lib.hid (((Below.refl w2.heap.size w2).alloc (Nat.le_refl _) (.cells #[] 5)).grown hgrow4 (by simp) (by simp [Value.ownBlock])); have HOV := Lib.hid hov; have HSG := Lib.hid hSg; clear hown4 hgrow4 hov hSg))
    refine (Parse_any _ _ _ _ _ HSG.out).mono ?_
    rw [HPB.out]
    rintro e w5 ⟨pw, dw, pb, db, rfl, hP, hb5, hfr⟩
    have HP := Lib.hid hP
    have HFR := Lib.hid hfr
    have HG2 := Lib.hid (Nat.lt_of_lt_of_le hg2 hb5.size)
    have HOV5 := Lib.hid (HOV.out.start (hb5.alloc hb5.size (.cells #[.int .u8 (f1.toNat : Int), .int .u16 (a1.toNat : Int), .int .u16 (m1.toNat : Int), .int .u16 (t1.toNat : Int), .slice pw ws.length dw, .slice pb bs.length db] 26)))
    have HW5 := Lib.hid (HW4.out.trans (hb5.mono HW4.out.size))
    have HZ5 := Lib.hid hb5.size
    clear hP hfr hb5 HOV HSG hS2
    simp only [Option.getD_some, Option.isSome_some, if_true, askV] at *
    go_wp2_with fail
    have HXB := Lib.hid (heap_alloc_new w5 (.cells #[.int .u8 (f1.toNat : Int), .int .u16 (a1.toNat : Int), .int .u16 (m1.toNat : Int), .int .u16 (t1.toNat : Int), .slice pw ws.length dw, .slice pb bs.length db] 26))
    have HW6 := Lib.hid (HW5.out.alloc (Nat.le_trans (Nat.le_refl _) HW5.out.size) (.cells #[.int .u8 (f1.toNat : Int), .int .u16 (a1.toNat : Int), .int .u16 (m1.toNat : Int), .int .u16 (t1.toNat : Int), .slice pw ws.length dw, .slice pb bs.length db] 26))
    have hz6 : (w5.alloc (.cells #[.int .u8 (f1.toNat : Int), .int .u16 (a1.toNat : Int), .int .u16 (m1.toNat : Int), .int .u16 (t1.toNat : Int), .slice pw ws.length dw, .slice pb bs.length db] 26)).heap.size = w5.heap.size + 1 := by simp
    have HPA := Lib.hid (((HP.out.below ((Below.refl _ _).alloc (Nat.le_refl _) (.cells #[.int .u8 (f1.toNat : Int), .int .u16 (a1.toNat : Int), .int .u16 (m1.toNat : Int), .int .u16 (t1.toNat : Int), .slice pw ws.length dw, .slice pb bs.length db] 26)))))
    generalize hW6 : w5.alloc (.cells #[.int .u8 (f1.toNat : Int), .int .u16 (a1.toNat : Int), .int .u16 (m1.toNat : Int), .int .u16 (t1.toNat : Int), .slice pw ws.length dw, .slice pb bs.length db] 26) = W6 at *
    clear hW6
    have HZ6 := Lib.hid hz6
    clear hz6
    go_loopw [10, 56] (fun u i wr => ∃ k : Nat, k ≤ n ∧ i = .int .i64 k ∧ Over W6 wr g n) (fun _ i _ => n - (intOf i).toNat)
    case atStart => exact ⟨0, by omega, rfl, HOV5.out⟩
    case round =>
      obtain ⟨k, hk, rfl, hov⟩ := hrel
      by_cases hlt : k < n
      · have ht : decide ((k : Int) < (n : Int)) = true := by simp; omega
        obtain ⟨x, hcx⟩ := hov.cell hlt
        have hfx := hov.free (i := k)
        have hfl := flip_val x
        have HOV6 := Lib.hid (hov.set (i := k) (x ^^^ 255))
        clear hov
        go_wp2_with fail
        go_roundw
        case rel => exact ⟨k + 1, by omega, by go_num, HOV6.out⟩
        case measure => simp [intOf]; omega
      · obtain rfl : k = n := by omega
        have ht : decide ((k : Int) < (k : Int)) = false := by simp
        have HBX := Lib.hid (hov.below HW6.out (by have := HZ6.out; have := HZ5.out; omega) (by omega))
        have HZR := Lib.hid hov.size
        have HRA := Lib.hid ((hov.block (by have := HZ6.out; have := HZ5.out; have := HZ2.out; have := HB3.out.lt; omega) (by have := HB3.out.lt; omega)).trans ((HW6.out.block _ HB3.out.lt).trans HB3.out.row))
        have HRX := Lib.hid ((hov.block (by have := HZ6.out; omega) (by have := HG2.out; omega)).trans HXB.out)
        have HAA : Hid (AskAt wr w.heap.size ⟨f1, a1, m1, t1, ws, bs⟩ aw cw ab cb) := Lib.hid ⟨hov.sl ((HA.out.words.below (HB3.out.below.trans (HW6.out.mono HB3.out.below.size)) (Nat.le_refl _))) (.inl (by have := HB3.out.lt; omega)), hov.sl ((HA.out.bits.below (HB3.out.below.trans (HW6.out.mono HB3.out.below.size)) (Nat.le_refl _))) (.inl (by have := HB3.out.lt; omega))⟩
        have HAX : Hid (AskAt wr W6.heap.size ⟨f1, a1, m1, t1, ws, bs⟩ pw dw pb db) := Lib.hid ⟨hov.sl HPA.out.words (.inr fun y hy => by have := HFR.out y (.inl hy); omega), hov.sl HPA.out.bits (.inr fun y hy => by have := HFR.out y (.inr hy); omega)⟩
        have HSW := Lib.hid (hov.sl (HSB.out.below (HBW1.out.trans (HW6.out.mono HZ2.out)) (Nat.le_refl _)) (.inl (by have := HZ2.out; omega)))
        clear hov HOV5 HXB HPA HFR HA
        clear hk hlt
        go_wp2_with fail
        have HR2 : ∀ W, Below wr.heap.size wr W → W.heap[w.heap.size]? = some (.cells #[.int .u8 (f1.toNat : Int), .int .u16 (a1.toNat : Int), .int .u16 (m1.toNat : Int), .int .u16 (t1.toNat : Int), .slice aw ws.length cw, .slice ab bs.length cb] 26 (0, 0)) := fun W h => (h.block _ (by have := HB3.out.lt; have := HBX.out.size; omega)).trans HRA.out
        have HR8 : ∀ W, Below wr.heap.size wr W → W.heap[w5.heap.size]? = some (.cells #[.int .u8 (f1.toNat : Int), .int .u16 (a1.toNat : Int), .int .u16 (m1.toNat : Int), .int .u16 (t1.toNat : Int), .slice pw ws.length dw, .slice pb bs.length db] 26 (0, 0)) := fun W h => (h.block _ (by have := HZ6.out; have := HZR.out; omega)).trans HRX.out
        have HBc : ∀ W, Below wr.heap.size wr W → W.cell? ⟨bb, ob, none⟩ = some (b8 f1) := fun W h => (h.cell (p := ⟨bb, ob, none⟩) (by have := HZ2.out; have := HBX.out.size; simp only; omega)).trans (first_of HSW.out (by omega) HF4.out)
        have HSM : ∀ W, Below wr.heap.size wr W → Calls Try.prog 20 #[.agg #[.int .u8 (f1.toNat : Int), .int .u16 (a1.toNat : Int), .int .u16 (m1.toNat : Int), .int .u16 (t1.toNat : Int), .slice aw ws.length cw, .slice ab bs.length cb], .agg #[.int .u8 (f1.toNat : Int), .int .u16 (a1.toNat : Int), .int .u16 (m1.toNat : Int), .int .u16 (t1.toNat : Int), .slice pw ws.length dw, .slice pb bs.length db]] W fun e W' => e = .returned (.bool true) ∧ Below wr.heap.size wr W' := fun W h => (Same_any ⟨f1, a1, m1, t1, ws, bs⟩ ⟨f1, a1, m1, t1, ws, bs⟩ aw cw ab cb pw dw pb db W (HAA.out.up h (by have := HB3.out.lt; have := HBX.out.size; omega)) (HAX.out.up h HZR.out)).mono fun _ _ ⟨he, hb⟩ => ⟨by rw [he]; simp, h.trans (hb.mono h.size)⟩
        refine region_quiet (fun W => Below wr.heap.size wr W) (by kernel_rfl) (by kernel_rfl) (Below.refl _ _).drew ?_
        intro ops Q' hops hQ
        refine QP.val (.int .i64 0) (by rfl) (fun wC hC => runq_move rfl (by kernel_rfl)) ?_
        refine QP.val (.bool false) (by rfl) (fun wC hC => runq_neq (k := .i64) (p := 0) (q := 0) rfl (by kernel_rfl) (by kernel_rfl) (by rfl)) ?_
        refine QP.val (.bool false) (by rfl) (fun wC hC => runq_move rfl (by kernel_rfl)) ?_
        refine QP.val (.int .i64 0) (wantedq (j := 2) (d := 68) (want := false) (b := false) rfl (by rw [hops.out]; rfl) (by kernel_rfl) rfl) (fun wC hC => runq_move rfl (by kernel_rfl)) ?_
        refine QP.val (.bool false) (wantedq (j := 2) (d := 68) (want := false) (b := false) rfl (by rw [hops.out]; rfl) (by kernel_rfl) rfl) (fun wC hC => runq_neq (k := .i64) (p := 0) (q := 0) rfl (by kernel_rfl) (by kernel_rfl) (by rfl)) ?_
        refine QP.val (.bool false) (by rfl) (fun wC hC => runq_pick (c := false) rfl (by kernel_rfl) (by kernel_rfl)) ?_
        refine QP.val (.bool false) (by rfl) (fun wC hC => runq_move rfl (by kernel_rfl)) ?_
        refine QP.val (.agg #[.int .u8 (f1.toNat : Int), .int .u16 (a1.toNat : Int), .int .u16 (m1.toNat : Int), .int .u16 (t1.toNat : Int), .slice aw ws.length cw, .slice ab bs.length cb]) (wantedq (j := 6) (d := 72) (want := false) (b := false) rfl (by rw [hops.out]; rfl) (by kernel_rfl) rfl) (fun wC hC => runq_load_row (t := 26) (g := w.heap.size) (fr := (0, 0)) rfl (by kernel_rfl) (HR2 wC hC) Try.underlying26 rfl (by kernel_rfl)) ?_
        refine QP.val (.agg #[.int .u8 (f1.toNat : Int), .int .u16 (a1.toNat : Int), .int .u16 (m1.toNat : Int), .int .u16 (t1.toNat : Int), .slice pw ws.length dw, .slice pb bs.length db]) (wantedq (j := 6) (d := 72) (want := false) (b := false) rfl (by rw [hops.out]; rfl) (by kernel_rfl) rfl) (fun wC hC => runq_load_row (t := 26) (g := w5.heap.size) (fr := (0, 0)) rfl (by kernel_rfl) (HR8 wC hC) Try.underlying26 rfl (by kernel_rfl)) ?_
        refine QP.call 20 #[.agg #[.int .u8 (f1.toNat : Int), .int .u16 (a1.toNat : Int), .int .u16 (m1.toNat : Int), .int .u16 (t1.toNat : Int), .slice aw ws.length cw, .slice ab bs.length cb], .agg #[.int .u8 (f1.toNat : Int), .int .u16 (a1.toNat : Int), .int .u16 (m1.toNat : Int), .int .u16 (t1.toNat : Int), .slice pw ws.length dw, .slice pb bs.length db]] (.bool true) (wantedq (j := 6) (d := 72) (want := false) (b := false) rfl (by rw [hops.out]; rfl) (by kernel_rfl) rfl) (fun wC hC => (congrArg (fun s => Sem.run Try.prog s wC) (by kernel_rfl)).trans (enters_same #[.agg #[.int .u8 (f1.toNat : Int), .int .u16 (a1.toNat : Int), .int .u16 (m1.toNat : Int), .int .u16 (t1.toNat : Int), .slice aw ws.length cw, .slice ab bs.length cb], .agg #[.int .u8 (f1.toNat : Int), .int .u16 (a1.toNat : Int), .int .u16 (m1.toNat : Int), .int .u16 (t1.toNat : Int), .slice pw ws.length dw, .slice pb bs.length db]] wC)) (fun wC hC => HSM wC hC) ?_
        refine QP.val (.bool false) (wantedq (j := 6) (d := 72) (want := false) (b := false) rfl (by rw [hops.out]; rfl) (by kernel_rfl) rfl) (fun wC hC => runq_not (c := true) rfl (by kernel_rfl) rfl) ?_
        refine QP.val (.bool false) (by rfl) (fun wC hC => runq_pick (c := false) rfl (by kernel_rfl) (by kernel_rfl)) ?_
        refine QP.val (.bool false) (by rfl) (fun wC hC => runq_move rfl (by kernel_rfl)) ?_
        refine QP.val (.slice (some ⟨bb, ob, none⟩) k c1) (wantedq (j := 12) (d := 78) (want := false) (b := false) rfl (by rw [hops.out]; rfl) (by kernel_rfl) rfl) (fun wC hC => runq_move rfl (by kernel_rfl)) ?_
        refine QP.val (.int .i64 (k : Int)) (wantedq (j := 12) (d := 78) (want := false) (b := false) rfl (by rw [hops.out]; rfl) (by kernel_rfl) rfl) (fun wC hC => runq_len (a := some ⟨bb, ob, none⟩) (n := k) (c := c1) (T := 27) (by kernel_rfl) rfl (by kernel_rfl)) ?_
        refine QP.val (.bool false) (wantedq (j := 12) (d := 78) (want := false) (b := false) rfl (by rw [hops.out]; rfl) (by kernel_rfl) rfl) (fun wC hC => runq_lss (k := .i64) (p := (k : Int)) (q := 5) rfl (by kernel_rfl) (by kernel_rfl) (by simp; omega)) ?_
        refine QP.val (.bool false) (by rfl) (fun wC hC => runq_pick (c := false) rfl (by kernel_rfl) (by kernel_rfl)) ?_
        refine QP.val (.bool false) (by rfl) (fun wC hC => runq_move rfl (by kernel_rfl)) ?_
        refine QP.val (.slice (some ⟨bb, ob, none⟩) k c1) (wantedq (j := 17) (d := 83) (want := false) (b := false) rfl (by rw [hops.out]; rfl) (by kernel_rfl) rfl) (fun wC hC => runq_move rfl (by kernel_rfl)) ?_
        refine QP.val (.int .i64 (k : Int)) (wantedq (j := 17) (d := 83) (want := false) (b := false) rfl (by rw [hops.out]; rfl) (by kernel_rfl) rfl) (fun wC hC => runq_len (a := some ⟨bb, ob, none⟩) (n := k) (c := c1) (T := 27) (by kernel_rfl) rfl (by kernel_rfl)) ?_
        refine QP.val (.bool false) (wantedq (j := 17) (d := 83) (want := false) (b := false) rfl (by rw [hops.out]; rfl) (by kernel_rfl) rfl) (fun wC hC => runq_gtr (k := .i64) (p := (k : Int)) (q := 253) rfl (by kernel_rfl) (by kernel_rfl) (by simp; omega)) ?_
        refine QP.val (.bool false) (by rfl) (fun wC hC => runq_pick (c := false) rfl (by kernel_rfl) (by kernel_rfl)) ?_
        refine QP.val (.bool false) (by rfl) (fun wC hC => runq_move rfl (by kernel_rfl)) ?_
        refine QP.val (.slice (some ⟨bb, ob, none⟩) k c1) (wantedq (j := 22) (d := 88) (want := false) (b := false) rfl (by rw [hops.out]; rfl) (by kernel_rfl) rfl) (fun wC hC => runq_move rfl (by kernel_rfl)) ?_
        refine QP.val (.pointer (some ⟨bb, ob, none⟩)) (wantedq (j := 22) (d := 88) (want := false) (b := false) rfl (by rw [hops.out]; rfl) (by kernel_rfl) rfl) (fun wC hC => runq_indexAddr (b := bb) (off := ob) (n := k) (c := c1) (i := 0) (k := .i64) rfl Try.underlying27 (fun _ => by kernel_rfl) (by kernel_rfl) (by kernel_rfl) (by omega)) ?_
        refine QP.val (.int .u8 (f1.toNat : Int)) (wantedq (j := 22) (d := 88) (want := false) (b := false) rfl (by rw [hops.out]; rfl) (by kernel_rfl) rfl) (fun wC hC => runq_load_int (p := ⟨bb, ob, none⟩) rfl (by kernel_rfl) (HBc wC hC) Try.underlying5) ?_
        refine QP.val (.pointer (some ⟨w.heap.size, 0, none⟩)) (wantedq (j := 22) (d := 88) (want := false) (b := false) rfl (by rw [hops.out]; rfl) (by kernel_rfl) rfl) (fun wC hC => by kernel_rfl) ?_
        refine QP.val (.int .u8 (f1.toNat : Int)) (wantedq (j := 22) (d := 88) (want := false) (b := false) rfl (by rw [hops.out]; rfl) (by kernel_rfl) rfl) (fun wC hC => runq_load_int (p := ⟨w.heap.size, 0, none⟩) rfl (by kernel_rfl) (cell_of_row _ _ 0 _ _ _ (HR2 wC hC)) Try.underlying5) ?_
        refine QP.val (.bool false) (wantedq (j := 22) (d := 88) (want := false) (b := false) rfl (by rw [hops.out]; rfl) (by kernel_rfl) rfl) (fun wC hC => runq_neq (k := .u8) (p := (f1.toNat : Int)) (q := (f1.toNat : Int)) rfl (by kernel_rfl) (by kernel_rfl) (by simp)) ?_
        refine QP.val (.bool false) (by rfl) (fun wC hC => runq_pick (c := false) rfl (by kernel_rfl) (by kernel_rfl)) ?_
        refine QP.nil (hQ.out _ fun w8 hC => ?_)
        simp only [Act.put, List.setIfInBounds_toArray, List.set_cons_succ, List.set_cons_zero]
        have HC8 := Lib.hid hC
        clear hops hQ HR2 HR8 HBc HSM hC
        go_wp2_with fail
        have HWR := Lib.hid (HB3.out.below.trans (HBX.out.mono HB3.out.below.size))
        have HW8 := Lib.hid (HWR.out.trans (HC8.out.mono HWR.out.size))
        have HS8 := Lib.hid (HSW.out.below HC8.out (by have := HWR.out.size; have := HZ2.out; have := HBX.out.size; omega))
        have HB8 := Lib.hid (HS.out.below HW8.out (Nat.le_refl _))
        have HZ8 := Lib.hid (Nat.le_trans (Nat.le_trans HZ2.out HBX.out.size) HC8.out.size)
        clear HRA HRX HAA HAX HSW
        go_loopw [98] (fun i wq => ∃ j : Nat, j ≤ k ∧ i = .int .i64 j ∧ Below w8.heap.size w8 wq) (fun i _ => k - (intOf i).toNat)
        case atStart => exact ⟨0, by omega, rfl, Below.refl _ _⟩
        case round =>
          obtain ⟨j, hj, rfl, hbq⟩ := hrel
          by_cases hlt : j < k
          · have ht : decide ((j : Int) < (k : Int)) = true := by simp; omega
            have hSj := (HS8.out.below hbq HZ8.out)
            have hSk := (hSj.take_ (k := j) (by omega)).more (Nat.le_trans HZ8.out hbq.size)
            have hPA := Parse_any _ _ _ _ _ hSk
            rw [HPT.out j (by have := HN.out; omega)] at hPA
            have HPA := Lib.hid hPA
            have HBQ := Lib.hid hbq
            have hjc : j ≤ c1 := by have := hSj.nle; omega
            clear hSj hSk hPA hbq
            by_cases g1 : j < 8
            · have t1 : decide ((j : Int) < 8) = true := by simp; omega
              go_wp2_with fail
              refine HPA.out.mono ?_
              rintro e w9 ⟨pw2, dw2, pb2, db2, rfl, -, hb9, -⟩
              have HB9 := Lib.hid (fun o => (HBQ.out.trans (hb9.mono HBQ.out.size)).alloc (Nat.le_trans HBQ.out.size hb9.size) o)
              clear hb9 HPA
              simp only [Option.getD_none, Option.isSome_none, Bool.false_eq_true, if_false, askV, bare]
              go_wp2_with fail
              go_roundw
              case rel => exact ⟨j + 1, by omega, by go_num, HB9.out _⟩
              case measure => simp [intOf]; omega
            · have t1 : decide ((j : Int) < 8) = false := by simp; omega
              by_cases g2 : k < j + 5
              · have t2 : decide ((k : Int) - (j : Int) < 5) = true := by simp; omega
                go_wp2_with fail
                refine HPA.out.mono ?_
                rintro e w9 ⟨pw2, dw2, pb2, db2, rfl, -, hb9, -⟩
                have HB9 := Lib.hid (fun o => (HBQ.out.trans (hb9.mono HBQ.out.size)).alloc (Nat.le_trans HBQ.out.size hb9.size) o)
                clear hb9 HPA
                simp only [Option.getD_none, Option.isSome_none, Bool.false_eq_true, if_false, askV, bare]
                go_wp2_with fail
                go_roundw
                case rel => exact ⟨j + 1, by omega, by go_num, HB9.out _⟩
                case measure => simp [intOf]; omega
              · have t2 : decide ((k : Int) - (j : Int) < 5) = false := by simp; omega
                by_cases g3 : j % 9 = 0
                · have t3 : ((j : Int) % 9 == 0) = true := by simp; omega
                  go_wp2_with fail
                  refine HPA.out.mono ?_
                  rintro e w9 ⟨pw2, dw2, pb2, db2, rfl, -, hb9, -⟩
                  have HB9 := Lib.hid (fun o => (HBQ.out.trans (hb9.mono HBQ.out.size)).alloc (Nat.le_trans HBQ.out.size hb9.size) o)
                  clear hb9 HPA
                  simp only [Option.getD_none, Option.isSome_none, Bool.false_eq_true, if_false, askV, bare]
                  go_wp2_with fail
                  go_roundw
                  case rel => exact ⟨j + 1, by omega, by go_num, HB9.out _⟩
                  case measure => simp [intOf]; omega
                · have t3 : ((j : Int) % 9 == 0) = false := by simp; omega
                  go_wp2_with fail
                  go_roundw
                  case rel => exact ⟨j + 1, by omega, by go_num, HBQ.out⟩
                  case measure => simp [intOf]; omega
          · obtain rfl : j = k := by omega
            have ht : decide ((j : Int) < (j : Int)) = false := by simp
            have HBQ := Lib.hid hbq
            clear hbq
            have HSQ := (HS8.out.below HBQ.out HZ8.out).more (Nat.le_trans HZ8.out HBQ.out.size)
            have HWQ := Lib.hid (HW8.out.trans (HBQ.out.mono HW8.out.size))
            have hSh := HB8.out.below HBQ.out HW8.out.size
            go_wp2_with (first
              | (at_builtin; refine wpList_append_sl (f := b8) b8_one rfl (.tmp 126) (.tmp 127) 27 rfl wr.heap.size 5 i0 (.int .u8 0) 1 Try.underlying27 hi hz0 hz1 hz2' rfl (.slice (some ⟨wr.heap.size, 0, none⟩) 0 0) 0 [] rfl (World.ownsRow_made wr #[] 0 (Nat.le_refl _) (by unfold maxLen; omega) rfl) (some ⟨bb, ob, none⟩) j c1 rfl (HSQ.alloc (Nat.le_refl _) _) (by unfold maxLen; omega) (by omega) (by simp) ?_; intro v6 w6 hown6 hgrow6; simp only [Nat.zero_add, List.nil_append] at hown6; have HW6b := Lib.hid (((Below.refl wr.heap.size wr).alloc (Nat.le_refl _) (.cells #[] 5)).grown hgrow6 (by simp) (by simp [Value.ownBlock])); have HO6 := Lib.hid hown6; have HSH6 := Lib.hid (hSh.below HW6b.out HWQ.out.size); clear hown6 hgrow6)
              | (at_builtin; refine wpList_append_sl (f := b8) b8_one rfl (.tmp 128) (.tmp 129) 27 rfl wr.heap.size 5 i0 (.int .u8 0) 1 Try.underlying27 hi hz0 hz1 hz2' rfl v6 j (la.map b8) rfl HO6.out hv m c rfl HSH6.out (by unfold maxLen; omega) (by omega) HW6b.out.size ?_; intro v7 w7 hown7 hgrow7; rw [← List.map_append] at hown7; obtain ⟨g7, cap7, hv7, hg7, hg8, -, hS7⟩ := own_at hown7 (by omega); subst hv7; have HW7 := Lib.hid (HW6b.out.grown hgrow7 HW6b.out.size (fun q hq => (HO6.out.lt q hq).1)); have HS7 := Lib.hid hS7; clear hown7 hgrow7 hS7))
            have hPA := Parse_any _ _ _ _ _ HS7.out
            have HWE := Lib.hid (HWQ.out.trans (HW7.out.mono HWQ.out.size))
            by_cases hm0 : m = 0
            · have hlh : lh = [] := List.eq_nil_of_length_eq_zero (by omega)
              rw [hlh, List.append_nil, HPB.out] at hPA
              have HPA := Lib.hid hPA
              clear hPA hlh l4
              subst hm0
              refine HPA.out.mono ?_
              rintro e w9 ⟨pw2, dw2, pb2, db2, rfl, -, hb9, -⟩
              have HB9 := Lib.hid (fun o => (HWE.out.trans (hb9.mono HWE.out.size)).alloc (Nat.le_trans HWE.out.size hb9.size) o)
              clear hb9 HPA
              simp only [Option.getD_some, Option.isSome_some, if_true, askV]
              go_wp2_with fail
              refine (awake_any _).mono ?_
              rintro e w10 ⟨rfl, hb⟩
              have HBE := Lib.hid ((HB9.out _).trans (hb.mono (HB9.out _).size))
              go_wp2_with fail
              go_ret
              exact Says.mk HBE.out
            · have hlh : lh ≠ [] := fun h => hm0 (by rw [← l4, h]; rfl)
              rw [HPM.out lh hlh] at hPA
              have HPA := Lib.hid hPA
              have hm1 : ((m : Int) == 0) = false := by simp; omega
              clear hPA hlh l4
              refine HPA.out.mono ?_
              rintro e w9 ⟨pw2, dw2, pb2, db2, rfl, -, hb9, -⟩
              have HB9 := Lib.hid (fun o => (HWE.out.trans (hb9.mono HWE.out.size)).alloc (Nat.le_trans HWE.out.size hb9.size) o)
              clear hb9 HPA
              simp only [Option.getD_none, Option.isSome_none, Bool.false_eq_true, if_false, askV, bare]
              go_wp2_with fail
              refine (awake_any _).mono ?_
              rintro e w10 ⟨rfl, hb⟩
              have HBE := Lib.hid ((HB9.out _).trans (hb.mono (HB9.out _).size))
              go_wp2_with fail
              go_ret
              exact Says.mk HBE.out
end Go.Proofs.Ytjgkomigjdlfhaa.AskW
