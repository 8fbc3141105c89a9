/- The document's own answer: the bytes of replies. -/
import Derived.Test.YtenfcpdoingdeaaRefBytes
import Derived.Test.YtenfcpdoingdeaaRefRight3
import Derived.Test.YtenfcpdoingdeaaReplyWr
import Derived.Test.YtenfcpdoingdeaaReplyBytes
open Go.RowKit
namespace Go.Proofs.Ytenfcpdoingdeaa.RefW
open AskM AskW ReplyM ReplyW Mem

theorem BRow.rgives {w W : World} {c : Array Value} {T : TypeId} {v : Value} {l : List UInt8} {o : Option (List UInt8)} (h : BRow w W c T v l) (ho : o = some l) : RGives o w (.returned (.tuple #[v, .int .i64 0])) W := by
  obtain ⟨a, k, rfl, hs⟩ := Sl.of_own h.own
  refine rgives_some ho hs h.box.below fun x hx => ?_
  subst hx
  have := (h.own.lt x.block rfl).1
  omega
theorem BRow.first2 {w W : World} {c : Array Value} {T : TypeId} (hb : Box1 w c T W) (x y : UInt8) : BRow w (W.alloc (.cells #[b8 x, b8 y] 5)) c T (.slice (some ⟨W.heap.size, 0, none⟩) 2 2) [x, y] :=
  ⟨own_low (own_of_row (cs := [b8 x, b8 y]) (n := 2) (heap_alloc_new W (.cells #[b8 x, b8 y] 5)) (Nat.le_refl _) (by simp; unfold maxLen; omega) (Nat.le_refl _)) hb.lt, hb.on ((Below.refl _ _).alloc (Nat.le_refl _) _)⟩
theorem BRow.first2_at {w W : World} {c : Array Value} {T : TypeId} (hb : Box1 w c T W) (x y : UInt8) (u v : Value) (hu : u = b8 x) (hv : v = b8 y) : BRow w (W.alloc (.cells #[u, v] 5)) c T (.slice (some ⟨W.heap.size, 0, none⟩) 2 2) [x, y] := by
  subst hu hv
  exact BRow.first2 hb x y
theorem rbytes_right {r : Rep} {k : Kind} (hk : kindForN r = some k) (h : rrightN r = true) : rbytesN r = some (writeK k r) ∧ rightK k r = true := by
  have h2 : rightK k r = true := by unfold rrightN at h; rw [hk] at h; exact h
  exact ⟨rbytes_some.2 ⟨k, hk, h2, rfl⟩, h2⟩
theorem rbytes_wrong {r : Rep} (h : rrightN r = false) : rbytesN r = none := by
  unfold rbytesN
  unfold rrightN at h
  cases hk : kindForN r with
  | none => rfl
  | some k =>
    rw [hk] at h
    simp only at h
    simp [h]

set_option maxRecDepth 100000 in
set_option maxHeartbeats 4000000 in
theorem rRBytes_any (r : Rep) (aw : Option Addr) (cw : Nat) (ab : Option Addr) (cb : Nat) (w : World) (hA : RepAt w w.heap.size r aw cw ab cb) (hnw : r.words.length ≤ 1000000) (hnb : r.bits.length ≤ 1000000) :
    Calls Try.prog 26 #[repV r aw cw ab cb] w (RGives (rbytesN r) w) := by
  have hw := hA.words
  have hb := hA.bits
  obtain ⟨f1, x1, bs, ws, a1, m1⟩ := r
  simp only at hnw hnb hw hb
  have HW := Lib.hid hw
  have HB := Lib.hid hb
  have hf8 := f1.toNat_lt
  have hx8 := x1.toNat_lt
  have hm16 := m1.toNat_lt
  have ha16 := a1.toNat_lt
  obtain ⟨i0, hi0, hz0, hz1, hz2⟩ := info_parts info8
  have hz2' : i0.bytes = 1 := hz2
  have HX := Lib.hid (And.intro hi0 (And.intro hz0 (And.intro hz1 hz2')))
  have HBX0 := Lib.hid (Box1.new w #[b8 f1, b8 x1, .slice ab bs.length cb, .slice aw ws.length cw, b16 a1, b16 m1] 45)
  clear hA hw hb hi0 hz0 hz1 hz2 hz2'
  cases hrf : rrightN ⟨f1, x1, bs, ws, a1, m1⟩ with
  | false =>
    have HRF := Lib.hid hrf
    have HN := Lib.hid (rbytes_wrong hrf)
    clear hrf
    go_enter Try.func26, Try.ntmps26
    go_wp2_with fail
    generalize w.alloc (.cells #[b8 f1, b8 x1, .slice ab bs.length cb, .slice aw ws.length cw, b16 a1, b16 m1] 45) = W0 at *
    refine (rRRight_any ⟨f1, x1, bs, ws, a1, m1⟩ aw cw ab cb W0 hnw hnb).mono ?_
    rw [HRF.out]
    rintro e w2 ⟨rfl, hb2⟩
    have HBX := Lib.hid (HBX0.out.on hb2)
    clear hb2 HBX0
    have C0 := HBX.out.c
    have D0 := fun (X : Obj) (o : Nat) => (World.cell?_alloc_lt w2 X ⟨w.heap.size, o, none⟩ HBX.out.lt).trans (HBX.out.c o)
    clear D0
    go_wp2_with fail
    go_ret2
    exact rgives_none HN.out HBX.out.below
  | true =>
    have HRF := Lib.hid hrf
    by_cases hx : x1.toNat = 0
    case neg =>
      obtain ⟨hby, hfit⟩ := rbytes_right (by unfold kindForN; rw [if_pos (show 0 < x1.toNat by omega)]) hrf
      rw [rk_exc (by omega)] at hfit
      have hfit2 := of_decide_eq_true hfit
      have HBY : Hid (rbytesN ⟨f1, x1, bs, ws, a1, m1⟩ = some [f1 + 128, x1]) := Lib.hid hby
      have HV := Lib.hid (add128 (f := f1) (by omega))
      have hf7 : f1.toNat ≤ 127 := hfit2.1
      have t0 : ((x1.toNat : Int) != 0) = true := by simp; omega
      clear hby hrf hfit hfit2
      go_enter Try.func26, Try.ntmps26
      go_wp2_with fail
      generalize w.alloc (.cells #[b8 f1, b8 x1, .slice ab bs.length cb, .slice aw ws.length cw, b16 a1, b16 m1] 45) = W0 at *
      refine (rRRight_any ⟨f1, x1, bs, ws, a1, m1⟩ aw cw ab cb W0 hnw hnb).mono ?_
      rw [HRF.out]
      rintro e w2 ⟨rfl, hb2⟩
      have HBX := Lib.hid (HBX0.out.on hb2)
      clear hb2 HBX0
      have C0 := HBX.out.c
      have D0 := fun (X : Obj) (o : Nat) => (World.cell?_alloc_lt w2 X ⟨w.heap.size, o, none⟩ HBX.out.lt).trans (HBX.out.c o)
      go_wp2_with fail
      go_ret2
      exact (BRow.first2_at HBX.out (f1 + 128) x1 _ _ (by unfold b8; rw [← HV.out]) rfl).rgives HBY.out
    have t0 : ((x1.toNat : Int) != 0) = false := by simp; omega
    by_cases g1 : f1.toNat = 1
    · obtain ⟨hby, hfit⟩ := rbytes_right (k := .bitsR) (by unfold kindForN; rw [if_neg (show ¬ 0 < x1.toNat by omega)]; unfold kindOfN; simp only [g1]; rfl) hrf
      rw [rk_bits hx] at hfit
      have hfit2 := of_decide_eq_true hfit
      have HBY : Hid (rbytesN ⟨f1, x1, bs, ws, a1, m1⟩ = some ([f1, UInt8.ofNat (packN bs).length] ++ packN bs)) := Lib.hid (hby.trans (by
        simp [writeK]))
      have HFIT := Lib.hid hfit2
      have k1 : ((f1.toNat : Int) == 1) = true := by simp; omega
      have k2 : ((f1.toNat : Int) == 2) = false := by simp; omega
      have k3 : ((f1.toNat : Int) == 3) = false := by simp; omega
      have k4 : ((f1.toNat : Int) == 4) = false := by simp; omega
      have k23 : ((f1.toNat : Int) == 23) = false := by simp; omega
      clear hby hrf hfit hfit2 hx g1
      have hpl : (packN bs).length ≤ 255 := by rw [length_packN]; have := HFIT.out; omega
      go_enter Try.func26, Try.ntmps26
      go_wp2_with fail
      generalize w.alloc (.cells #[b8 f1, b8 x1, .slice ab bs.length cb, .slice aw ws.length cw, b16 a1, b16 m1] 45) = W0 at *
      refine (rRRight_any ⟨f1, x1, bs, ws, a1, m1⟩ aw cw ab cb W0 hnw hnb).mono ?_
      rw [HRF.out]
      rintro e w2 ⟨rfl, hb2⟩
      have HBX := Lib.hid (HBX0.out.on hb2)
      clear hb2 HBX0
      have C0 := HBX.out.c
      have D0 := fun (X : Obj) (o : Nat) => (World.cell?_alloc_lt w2 X ⟨w.heap.size, o, none⟩ HBX.out.lt).trans (HBX.out.c o)
      go_wp2_with fail
      refine (rPack_any ab bs.length cb bs w2 ((HB.out.below HBX.out.below (Nat.le_refl _)).more (Nat.le_of_lt HBX.out.lt)) hnb).mono ?_
      rintro e w3 ⟨ap, cp, rfl, hsp, hb3, hxp⟩
      have HBX3 := Lib.hid (HBX.out.on hb3)
      have HSP := Lib.hid hsp
      clear hsp hb3 hxp C0 D0 HBX
      have C3 := HBX3.out.c
      have D3 := fun (X : Obj) (o : Nat) => (World.cell?_alloc_lt w3 X ⟨w.heap.size, o, none⟩ HBX3.out.lt).trans (HBX3.out.c o)
      have hpe : Value.int .u8 ((packN bs).length : Int) = b8 (UInt8.ofNat (packN bs).length) := byte_of hpl
      have H4 := Lib.hid (BRow.first2_at HBX3.out f1 (UInt8.ofNat (packN bs).length) (b8 f1) (.int .u8 ((packN bs).length : Int)) rfl hpe)
      have HSP4 := Lib.hid ((HSP.out.below ((Below.refl w3.heap.size w3).alloc (Nat.le_refl _) (.cells #[b8 f1, .int .u8 ((packN bs).length : Int)] 5)) (Nat.le_refl _)).more (show w3.heap.size ≤ (w3.alloc (.cells #[b8 f1, .int .u8 ((packN bs).length : Int)] 5)).heap.size by simp))
      clear hpe
      go_wp2_with (first
        | (at_builtin; refine wpList_append_list (f := b8) (fun _ => rfl) rfl (.tmp 32) (.tmp 33) 27 rfl (w.heap.size + 1) 5 i0 (.int .u8 0) 1 Try.underlying27 HX.out.1 HX.out.2.1 HX.out.2.2.1 HX.out.2.2.2 rfl (.slice (some ⟨w3.heap.size, 0, none⟩) 2 2) _ _ rfl H4.out.own ap (packN bs).length cp rfl HSP4.out (by simp only [List.length_cons, List.length_nil]; unfold maxLen; omega) (by simp only [List.length_cons, List.length_nil]; omega) H4.out.lt ?_; intro v7 w7 hown7 hgrow7; have H7 := Lib.hid (H4.out.more hgrow7 hown7 (m := packN bs) rfl); clear hown7 hgrow7))
      go_ret2
      exact H7.out.rgives HBY.out
    by_cases g2 : f1.toNat = 2
    · obtain ⟨hby, hfit⟩ := rbytes_right (k := .bitsR) (by unfold kindForN; rw [if_neg (show ¬ 0 < x1.toNat by omega)]; unfold kindOfN; simp only [g2]; rfl) hrf
      rw [rk_bits hx] at hfit
      have hfit2 := of_decide_eq_true hfit
      have HBY : Hid (rbytesN ⟨f1, x1, bs, ws, a1, m1⟩ = some ([f1, UInt8.ofNat (packN bs).length] ++ packN bs)) := Lib.hid (hby.trans (by
        simp [writeK]))
      have HFIT := Lib.hid hfit2
      have k1 : ((f1.toNat : Int) == 1) = false := by simp; omega
      have k2 : ((f1.toNat : Int) == 2) = true := by simp; omega
      have k3 : ((f1.toNat : Int) == 3) = false := by simp; omega
      have k4 : ((f1.toNat : Int) == 4) = false := by simp; omega
      have k23 : ((f1.toNat : Int) == 23) = false := by simp; omega
      clear hby hrf hfit hfit2 hx g1 g2
      have hpl : (packN bs).length ≤ 255 := by rw [length_packN]; have := HFIT.out; omega
      go_enter Try.func26, Try.ntmps26
      go_wp2_with fail
      generalize w.alloc (.cells #[b8 f1, b8 x1, .slice ab bs.length cb, .slice aw ws.length cw, b16 a1, b16 m1] 45) = W0 at *
      refine (rRRight_any ⟨f1, x1, bs, ws, a1, m1⟩ aw cw ab cb W0 hnw hnb).mono ?_
      rw [HRF.out]
      rintro e w2 ⟨rfl, hb2⟩
      have HBX := Lib.hid (HBX0.out.on hb2)
      clear hb2 HBX0
      have C0 := HBX.out.c
      have D0 := fun (X : Obj) (o : Nat) => (World.cell?_alloc_lt w2 X ⟨w.heap.size, o, none⟩ HBX.out.lt).trans (HBX.out.c o)
      go_wp2_with fail
      refine (rPack_any ab bs.length cb bs w2 ((HB.out.below HBX.out.below (Nat.le_refl _)).more (Nat.le_of_lt HBX.out.lt)) hnb).mono ?_
      rintro e w3 ⟨ap, cp, rfl, hsp, hb3, hxp⟩
      have HBX3 := Lib.hid (HBX.out.on hb3)
      have HSP := Lib.hid hsp
      clear hsp hb3 hxp C0 D0 HBX
      have C3 := HBX3.out.c
      have D3 := fun (X : Obj) (o : Nat) => (World.cell?_alloc_lt w3 X ⟨w.heap.size, o, none⟩ HBX3.out.lt).trans (HBX3.out.c o)
      have hpe : Value.int .u8 ((packN bs).length : Int) = b8 (UInt8.ofNat (packN bs).length) := byte_of hpl
      have H4 := Lib.hid (BRow.first2_at HBX3.out f1 (UInt8.ofNat (packN bs).length) (b8 f1) (.int .u8 ((packN bs).length : Int)) rfl hpe)
      have HSP4 := Lib.hid ((HSP.out.below ((Below.refl w3.heap.size w3).alloc (Nat.le_refl _) (.cells #[b8 f1, .int .u8 ((packN bs).length : Int)] 5)) (Nat.le_refl _)).more (show w3.heap.size ≤ (w3.alloc (.cells #[b8 f1, .int .u8 ((packN bs).length : Int)] 5)).heap.size by simp))
      clear hpe
      go_wp2_with (first
        | (at_builtin; refine wpList_append_list (f := b8) (fun _ => rfl) rfl (.tmp 32) (.tmp 33) 27 rfl (w.heap.size + 1) 5 i0 (.int .u8 0) 1 Try.underlying27 HX.out.1 HX.out.2.1 HX.out.2.2.1 HX.out.2.2.2 rfl (.slice (some ⟨w3.heap.size, 0, none⟩) 2 2) _ _ rfl H4.out.own ap (packN bs).length cp rfl HSP4.out (by simp only [List.length_cons, List.length_nil]; unfold maxLen; omega) (by simp only [List.length_cons, List.length_nil]; omega) H4.out.lt ?_; intro v7 w7 hown7 hgrow7; have H7 := Lib.hid (H4.out.more hgrow7 hown7 (m := packN bs) rfl); clear hown7 hgrow7))
      go_ret2
      exact H7.out.rgives HBY.out
    by_cases g3 : f1.toNat = 3
    · obtain ⟨hby, hfit⟩ := rbytes_right (k := .wordsR) (by unfold kindForN; rw [if_neg (show ¬ 0 < x1.toNat by omega)]; unfold kindOfN; simp only [g3]; rfl) hrf
      rw [rk_words hx] at hfit
      have hfit2 := of_decide_eq_true hfit
      have HBY : Hid (rbytesN ⟨f1, x1, bs, ws, a1, m1⟩ = some ([f1, UInt8.ofNat (putN ws).length] ++ putN ws)) := Lib.hid (hby.trans (by
        simp [writeK, putN]))
      have HFIT := Lib.hid hfit2
      have k1 : ((f1.toNat : Int) == 1) = false := by simp; omega
      have k2 : ((f1.toNat : Int) == 2) = false := by simp; omega
      have k3 : ((f1.toNat : Int) == 3) = true := by simp; omega
      have k4 : ((f1.toNat : Int) == 4) = false := by simp; omega
      have k23 : ((f1.toNat : Int) == 23) = false := by simp; omega
      clear hby hrf hfit hfit2 hx g1 g2 g3
      have hpl : (putN ws).length ≤ 255 := by rw [lenP]; have := HFIT.out; omega
      have hwl : (ws.length : Int) ≤ 125 := by have := HFIT.out; omega
      go_enter Try.func26, Try.ntmps26
      go_wp2_with fail
      generalize w.alloc (.cells #[b8 f1, b8 x1, .slice ab bs.length cb, .slice aw ws.length cw, b16 a1, b16 m1] 45) = W0 at *
      refine (rRRight_any ⟨f1, x1, bs, ws, a1, m1⟩ aw cw ab cb W0 hnw hnb).mono ?_
      rw [HRF.out]
      rintro e w2 ⟨rfl, hb2⟩
      have HBX := Lib.hid (HBX0.out.on hb2)
      clear hb2 HBX0
      have C0 := HBX.out.c
      have D0 := fun (X : Obj) (o : Nat) => (World.cell?_alloc_lt w2 X ⟨w.heap.size, o, none⟩ HBX.out.lt).trans (HBX.out.c o)
      go_wp2_with fail
      refine (BRow.words (BRow.first2_at HBX.out f1 (UInt8.ofNat (putN ws).length) _ _ rfl (by rw [← byte_of hpl, lenP]; congr 1)) HW.out (by have := HFIT.out; omega) (by simp; omega)).mono ?_
      rintro e w3 ⟨v3, rfl, h3⟩
      have H3 := Lib.hid h3
      clear h3 C0 D0
      go_wp2_with fail
      go_ret2
      exact H3.out.rgives HBY.out
    by_cases g4 : f1.toNat = 4
    · obtain ⟨hby, hfit⟩ := rbytes_right (k := .wordsR) (by unfold kindForN; rw [if_neg (show ¬ 0 < x1.toNat by omega)]; unfold kindOfN; simp only [g4]; rfl) hrf
      rw [rk_words hx] at hfit
      have hfit2 := of_decide_eq_true hfit
      have HBY : Hid (rbytesN ⟨f1, x1, bs, ws, a1, m1⟩ = some ([f1, UInt8.ofNat (putN ws).length] ++ putN ws)) := Lib.hid (hby.trans (by
        simp [writeK, putN]))
      have HFIT := Lib.hid hfit2
      have k1 : ((f1.toNat : Int) == 1) = false := by simp; omega
      have k2 : ((f1.toNat : Int) == 2) = false := by simp; omega
      have k3 : ((f1.toNat : Int) == 3) = false := by simp; omega
      have k4 : ((f1.toNat : Int) == 4) = true := by simp; omega
      have k23 : ((f1.toNat : Int) == 23) = false := by simp; omega
      clear hby hrf hfit hfit2 hx g1 g2 g3 g4
      have hpl : (putN ws).length ≤ 255 := by rw [lenP]; have := HFIT.out; omega
      have hwl : (ws.length : Int) ≤ 125 := by have := HFIT.out; omega
      go_enter Try.func26, Try.ntmps26
      go_wp2_with fail
      generalize w.alloc (.cells #[b8 f1, b8 x1, .slice ab bs.length cb, .slice aw ws.length cw, b16 a1, b16 m1] 45) = W0 at *
      refine (rRRight_any ⟨f1, x1, bs, ws, a1, m1⟩ aw cw ab cb W0 hnw hnb).mono ?_
      rw [HRF.out]
      rintro e w2 ⟨rfl, hb2⟩
      have HBX := Lib.hid (HBX0.out.on hb2)
      clear hb2 HBX0
      have C0 := HBX.out.c
      have D0 := fun (X : Obj) (o : Nat) => (World.cell?_alloc_lt w2 X ⟨w.heap.size, o, none⟩ HBX.out.lt).trans (HBX.out.c o)
      go_wp2_with fail
      refine (BRow.words (BRow.first2_at HBX.out f1 (UInt8.ofNat (putN ws).length) _ _ rfl (by rw [← byte_of hpl, lenP]; congr 1)) HW.out (by have := HFIT.out; omega) (by simp; omega)).mono ?_
      rintro e w3 ⟨v3, rfl, h3⟩
      have H3 := Lib.hid h3
      clear h3 C0 D0
      go_wp2_with fail
      go_ret2
      exact H3.out.rgives HBY.out
    by_cases g5 : f1.toNat = 5
    · obtain ⟨hby, hfit⟩ := rbytes_right (k := .bitW) (by unfold kindForN; rw [if_neg (show ¬ 0 < x1.toNat by omega)]; unfold kindOfN; simp only [g5]; rfl) hrf
      rw [rk_bit hx] at hfit
      have hfit2 := of_decide_eq_true hfit
      have HBY : Hid (rbytesN ⟨f1, x1, bs, ws, a1, m1⟩ = some ([f1] ++ putN [a1] ++ putN [if bs.getD 0 false = true then 65280 else 0])) := Lib.hid (hby.trans (by
        simp [writeK, putN]))
      have HFIT := Lib.hid hfit2
      have k1 : ((f1.toNat : Int) == 1) = false := by simp; omega
      have k2 : ((f1.toNat : Int) == 2) = false := by simp; omega
      have k3 : ((f1.toNat : Int) == 3) = false := by simp; omega
      have k4 : ((f1.toNat : Int) == 4) = false := by simp; omega
      have k23 : ((f1.toNat : Int) == 23) = false := by simp; omega
      have k5 : ((f1.toNat : Int) == 5) = true := by simp; omega
      have k6 : ((f1.toNat : Int) == 6) = false := by simp; omega
      clear hby hrf hfit hfit2 hx g1 g2 g3 g4 g5
      obtain ⟨x, rfl⟩ : ∃ x, bs = [x] := by
        match bs, HFIT.out.1 with
        | [x], _ => exact ⟨x, rfl⟩
      obtain ⟨bb, off, x', rfl, hbb, hx', hcx⟩ := HB.out.at_ (k := 0) (by simp)
      obtain rfl : x = x' := by simpa using hx'
      rw [Nat.add_zero] at hcx
      clear hx'
      simp only [List.length_cons, List.length_nil, Nat.zero_add] at *
      go_enter Try.func26, Try.ntmps26
      go_wp2_with fail
      generalize w.alloc (.cells #[b8 f1, b8 x1, .slice (some ⟨bb, off, none⟩) 1 cb, .slice aw ws.length cw, b16 a1, b16 m1] 45) = W0 at *
      refine (rRRight_any ⟨f1, x1, [x], ws, a1, m1⟩ aw cw (some ⟨bb, off, none⟩) cb W0 hnw hnb).mono ?_
      rw [HRF.out]
      rintro e w2 ⟨rfl, hb2⟩
      have HBX := Lib.hid (HBX0.out.on hb2)
      clear hb2 HBX0
      have C0 := HBX.out.c
      have D0 := fun (X : Obj) (o : Nat) => (World.cell?_alloc_lt w2 X ⟨w.heap.size, o, none⟩ HBX.out.lt).trans (HBX.out.c o)
      go_wp2_with fail
      refine (BRow.two (BRow.first HBX.out f1) a1 (by simp)).mono ?_
      rintro e w3 ⟨v3, rfl, h3⟩
      have H3 := Lib.hid h3
      clear h3 C0 D0
      have C3 := H3.out.box.c
      have hc3 : w3.cell? ⟨bb, off, none⟩ = some (.bool x) := (H3.out.box.below.cell (p := ⟨bb, off, none⟩) hbb).trans hcx
      cases x
      · go_wp2_with fail
        refine (H3.out.two_at 0 _ (by have := HFIT.out.2.2; simp; omega) (by simp [lenP])).mono ?_
        rintro e w4 ⟨v4, rfl, h4⟩
        have H4 := Lib.hid h4
        clear h4 C3 H3
        go_wp2_with fail
        go_ret2
        exact H4.out.rgives HBY.out
      · go_wp2_with fail
        refine (H3.out.two_at 65280 _ (by rfl) (by simp [lenP])).mono ?_
        rintro e w4 ⟨v4, rfl, h4⟩
        have H4 := Lib.hid h4
        clear h4 C3 H3
        go_wp2_with fail
        go_ret2
        exact H4.out.rgives HBY.out
    by_cases g6 : f1.toNat = 6
    · obtain ⟨hby, hfit⟩ := rbytes_right (k := .wordW) (by unfold kindForN; rw [if_neg (show ¬ 0 < x1.toNat by omega)]; unfold kindOfN; simp only [g6]; rfl) hrf
      rw [rk_word hx] at hfit
      have hfit2 := of_decide_eq_true hfit
      have HBY : Hid (rbytesN ⟨f1, x1, bs, ws, a1, m1⟩ = some ([f1] ++ putN [a1] ++ putN ws)) := Lib.hid (hby.trans (by
        obtain ⟨y, rfl⟩ : ∃ y, ws = [y] := by
          match ws, hfit2.2.1 with
          | [y], _ => exact ⟨y, rfl⟩
        simp [writeK, putN]))
      have HFIT := Lib.hid hfit2
      have k1 : ((f1.toNat : Int) == 1) = false := by simp; omega
      have k2 : ((f1.toNat : Int) == 2) = false := by simp; omega
      have k3 : ((f1.toNat : Int) == 3) = false := by simp; omega
      have k4 : ((f1.toNat : Int) == 4) = false := by simp; omega
      have k23 : ((f1.toNat : Int) == 23) = false := by simp; omega
      have k5 : ((f1.toNat : Int) == 5) = false := by simp; omega
      have k6 : ((f1.toNat : Int) == 6) = true := by simp; omega
      clear hby hrf hfit hfit2 hx g1 g2 g3 g4 g5 g6
      obtain ⟨x, rfl⟩ : ∃ x, ws = [x] := by
        match ws, HFIT.out.2.1 with
        | [x], _ => exact ⟨x, rfl⟩
      obtain ⟨bb, off, x', rfl, hbb, hx', hcx⟩ := HW.out.at_ (k := 0) (by simp)
      obtain rfl : x = x' := by simpa using hx'
      rw [Nat.add_zero] at hcx
      clear hx'
      simp only [List.length_cons, List.length_nil, Nat.zero_add] at *
      have hx16 := x.toNat_lt
      go_enter Try.func26, Try.ntmps26
      go_wp2_with fail
      generalize w.alloc (.cells #[b8 f1, b8 x1, .slice ab bs.length cb, .slice (some ⟨bb, off, none⟩) 1 cw, b16 a1, b16 m1] 45) = W0 at *
      refine (rRRight_any ⟨f1, x1, bs, [x], a1, m1⟩ (some ⟨bb, off, none⟩) cw ab cb W0 hnw hnb).mono ?_
      rw [HRF.out]
      rintro e w2 ⟨rfl, hb2⟩
      have HBX := Lib.hid (HBX0.out.on hb2)
      clear hb2 HBX0
      have C0 := HBX.out.c
      have D0 := fun (X : Obj) (o : Nat) => (World.cell?_alloc_lt w2 X ⟨w.heap.size, o, none⟩ HBX.out.lt).trans (HBX.out.c o)
      go_wp2_with fail
      refine (BRow.two (BRow.first HBX.out f1) a1 (by simp)).mono ?_
      rintro e w3 ⟨v3, rfl, h3⟩
      have H3 := Lib.hid h3
      clear h3 C0 D0
      have C3 := H3.out.box.c
      have hc3 : w3.cell? ⟨bb, off, none⟩ = some (b16 x) := (H3.out.box.below.cell (p := ⟨bb, off, none⟩) hbb).trans hcx
      go_wp2_with fail
      refine (H3.out.two_at x _ (by rfl) (by simp [lenP])).mono ?_
      rintro e w4 ⟨v4, rfl, h4⟩
      have H4 := Lib.hid h4
      clear h4 C3 H3
      go_wp2_with fail
      go_ret2
      exact H4.out.rgives HBY.out
    by_cases g15 : f1.toNat = 15
    · obtain ⟨hby, hfit⟩ := rbytes_right (k := (.listW 1968)) (by unfold kindForN; rw [if_neg (show ¬ 0 < x1.toNat by omega)]; unfold kindOfN; simp only [g15]; rfl) hrf
      rw [rk_l15 hx] at hfit
      have hfit2 := of_decide_eq_true hfit
      have HBY : Hid (rbytesN ⟨f1, x1, bs, ws, a1, m1⟩ = some ([f1] ++ putN [a1] ++ putN [m1])) := Lib.hid (hby.trans (by
        simp [writeK, putN]))
      have HFIT := Lib.hid hfit2
      have k1 : ((f1.toNat : Int) == 1) = false := by simp; omega
      have k2 : ((f1.toNat : Int) == 2) = false := by simp; omega
      have k3 : ((f1.toNat : Int) == 3) = false := by simp; omega
      have k4 : ((f1.toNat : Int) == 4) = false := by simp; omega
      have k23 : ((f1.toNat : Int) == 23) = false := by simp; omega
      have k5 : ((f1.toNat : Int) == 5) = false := by simp; omega
      have k6 : ((f1.toNat : Int) == 6) = false := by simp; omega
      clear hby hrf hfit hfit2 hx g1 g2 g3 g4 g5 g6 g15
      go_enter Try.func26, Try.ntmps26
      go_wp2_with fail
      generalize w.alloc (.cells #[b8 f1, b8 x1, .slice ab bs.length cb, .slice aw ws.length cw, b16 a1, b16 m1] 45) = W0 at *
      refine (rRRight_any ⟨f1, x1, bs, ws, a1, m1⟩ aw cw ab cb W0 hnw hnb).mono ?_
      rw [HRF.out]
      rintro e w2 ⟨rfl, hb2⟩
      have HBX := Lib.hid (HBX0.out.on hb2)
      clear hb2 HBX0
      have C0 := HBX.out.c
      have D0 := fun (X : Obj) (o : Nat) => (World.cell?_alloc_lt w2 X ⟨w.heap.size, o, none⟩ HBX.out.lt).trans (HBX.out.c o)
      go_wp2_with fail
      refine (BRow.two (BRow.first HBX.out f1) a1 (by simp)).mono ?_
      rintro e w3 ⟨v3, rfl, h3⟩
      have H3 := Lib.hid h3
      clear h3 C0 D0
      have C3 := H3.out.box.c
      go_wp2_with fail
      refine (H3.out.two_at m1 _ (by rfl) (by simp [lenP])).mono ?_
      rintro e w4 ⟨v4, rfl, h4⟩
      have H4 := Lib.hid h4
      clear h4 C3 H3
      go_wp2_with fail
      go_ret2
      exact H4.out.rgives HBY.out
    by_cases g16 : f1.toNat = 16
    · obtain ⟨hby, hfit⟩ := rbytes_right (k := (.listW 123)) (by unfold kindForN; rw [if_neg (show ¬ 0 < x1.toNat by omega)]; unfold kindOfN; simp only [g16]; rfl) hrf
      rw [rk_l16 hx] at hfit
      have hfit2 := of_decide_eq_true hfit
      have HBY : Hid (rbytesN ⟨f1, x1, bs, ws, a1, m1⟩ = some ([f1] ++ putN [a1] ++ putN [m1])) := Lib.hid (hby.trans (by
        simp [writeK, putN]))
      have HFIT := Lib.hid hfit2
      have k1 : ((f1.toNat : Int) == 1) = false := by simp; omega
      have k2 : ((f1.toNat : Int) == 2) = false := by simp; omega
      have k3 : ((f1.toNat : Int) == 3) = false := by simp; omega
      have k4 : ((f1.toNat : Int) == 4) = false := by simp; omega
      have k23 : ((f1.toNat : Int) == 23) = false := by simp; omega
      have k5 : ((f1.toNat : Int) == 5) = false := by simp; omega
      have k6 : ((f1.toNat : Int) == 6) = false := by simp; omega
      clear hby hrf hfit hfit2 hx g1 g2 g3 g4 g5 g6 g15 g16
      go_enter Try.func26, Try.ntmps26
      go_wp2_with fail
      generalize w.alloc (.cells #[b8 f1, b8 x1, .slice ab bs.length cb, .slice aw ws.length cw, b16 a1, b16 m1] 45) = W0 at *
      refine (rRRight_any ⟨f1, x1, bs, ws, a1, m1⟩ aw cw ab cb W0 hnw hnb).mono ?_
      rw [HRF.out]
      rintro e w2 ⟨rfl, hb2⟩
      have HBX := Lib.hid (HBX0.out.on hb2)
      clear hb2 HBX0
      have C0 := HBX.out.c
      have D0 := fun (X : Obj) (o : Nat) => (World.cell?_alloc_lt w2 X ⟨w.heap.size, o, none⟩ HBX.out.lt).trans (HBX.out.c o)
      go_wp2_with fail
      refine (BRow.two (BRow.first HBX.out f1) a1 (by simp)).mono ?_
      rintro e w3 ⟨v3, rfl, h3⟩
      have H3 := Lib.hid h3
      clear h3 C0 D0
      have C3 := H3.out.box.c
      go_wp2_with fail
      refine (H3.out.two_at m1 _ (by rfl) (by simp [lenP])).mono ?_
      rintro e w4 ⟨v4, rfl, h4⟩
      have H4 := Lib.hid h4
      clear h4 C3 H3
      go_wp2_with fail
      go_ret2
      exact H4.out.rgives HBY.out
    by_cases g23 : f1.toNat = 23
    · obtain ⟨hby, hfit⟩ := rbytes_right (k := .wordsR) (by unfold kindForN; rw [if_neg (show ¬ 0 < x1.toNat by omega)]; unfold kindOfN; simp only [g23]; rfl) hrf
      rw [rk_words hx] at hfit
      have hfit2 := of_decide_eq_true hfit
      have HBY : Hid (rbytesN ⟨f1, x1, bs, ws, a1, m1⟩ = some ([f1, UInt8.ofNat (putN ws).length] ++ putN ws)) := Lib.hid (hby.trans (by
        simp [writeK, putN]))
      have HFIT := Lib.hid hfit2
      have k1 : ((f1.toNat : Int) == 1) = false := by simp; omega
      have k2 : ((f1.toNat : Int) == 2) = false := by simp; omega
      have k3 : ((f1.toNat : Int) == 3) = false := by simp; omega
      have k4 : ((f1.toNat : Int) == 4) = false := by simp; omega
      have k23 : ((f1.toNat : Int) == 23) = true := by simp; omega
      clear hby hrf hfit hfit2 hx g1 g2 g3 g4 g5 g6 g15 g16 g23
      have hpl : (putN ws).length ≤ 255 := by rw [lenP]; have := HFIT.out; omega
      have hwl : (ws.length : Int) ≤ 125 := by have := HFIT.out; omega
      go_enter Try.func26, Try.ntmps26
      go_wp2_with fail
      generalize w.alloc (.cells #[b8 f1, b8 x1, .slice ab bs.length cb, .slice aw ws.length cw, b16 a1, b16 m1] 45) = W0 at *
      refine (rRRight_any ⟨f1, x1, bs, ws, a1, m1⟩ aw cw ab cb W0 hnw hnb).mono ?_
      rw [HRF.out]
      rintro e w2 ⟨rfl, hb2⟩
      have HBX := Lib.hid (HBX0.out.on hb2)
      clear hb2 HBX0
      have C0 := HBX.out.c
      have D0 := fun (X : Obj) (o : Nat) => (World.cell?_alloc_lt w2 X ⟨w.heap.size, o, none⟩ HBX.out.lt).trans (HBX.out.c o)
      go_wp2_with fail
      refine (BRow.words (BRow.first2_at HBX.out f1 (UInt8.ofNat (putN ws).length) _ _ rfl (by rw [← byte_of hpl, lenP]; congr 1)) HW.out (by have := HFIT.out; omega) (by simp; omega)).mono ?_
      rintro e w3 ⟨v3, rfl, h3⟩
      have H3 := Lib.hid h3
      clear h3 C0 D0
      go_wp2_with fail
      go_ret2
      exact H3.out.rgives HBY.out
    exfalso
    have hk : kindForN ⟨f1, x1, bs, ws, a1, m1⟩ = if 128 ≤ f1.toNat then some .exc else none := by
      unfold kindForN kindOfN
      rw [if_neg (show ¬ 0 < x1.toNat by omega)]
      simp only [g1, g2, g3, g4, g5, g6, g15, g16, g23, if_false]
    unfold rrightN at hrf
    rw [hk] at hrf
    by_cases h8 : 128 ≤ f1.toNat
    · rw [if_pos h8] at hrf
      simp [rightK, countK, hx] at hrf
    · rw [if_neg h8] at hrf
      cases hrf
end Go.Proofs.Ytenfcpdoingdeaa.RefW
