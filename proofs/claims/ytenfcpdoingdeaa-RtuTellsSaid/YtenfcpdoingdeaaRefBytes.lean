/- The document's own answer on requests: their bytes. -/
import Derived.Test.YtenfcpdoingdeaaRefRight
import Derived.Test.YtenfcpdoingdeaaRefPack
import Derived.Test.YtenfcpdoingdeaaAskBytes
import Derived.Test.YtenfcpdoingdeaaBack
import Derived.Deep.AppendLies
import Derived.Deep.RegionHeld3
open Go.RowKit
namespace Go.Proofs.Ytenfcpdoingdeaa.RefW
open AskM AskW Mem

theorem own_low {w : World} {b b' : Nat} {T : TypeId} {v : Value} {n : Nat} {xs : List Value} (h : w.ownsRow b T 1 v n xs) (hb : b' ≤ b) : w.ownsRow b' T 1 v n xs := by
  refine ⟨h.1, ?_⟩
  rcases h.2 with h0 | ⟨g, cap, cur, h1, h2, h3⟩
  · exact .inl h0
  · exact .inr ⟨g, cap, cur, h1, Nat.le_trans hb h2, h3⟩
/-- Bytes in a row of the call's own, beside its box. -/
structure BRow (w W : World) (c : Array Value) (T : TypeId) (v : Value) (l : List UInt8) : Prop where
  own : W.ownsRow (w.heap.size + 1) 5 1 v l.length (l.map b8)
  box : Box1 w c T W
section
variable {w W W' : World} {c : Array Value} {T : TypeId} {v v' : Value} {l m : List UInt8}
theorem BRow.lt (h : BRow w W c T v l) : w.heap.size + 1 ≤ W.heap.size := h.box.lt
theorem BRow.grow (h : BRow w W c T v l) (hg : Grew W v W' v') (ho : W'.ownsRow (w.heap.size + 1) 5 1 v' m.length (m.map b8)) : BRow w W' c T v' m :=
  ⟨ho, h.box.on' (B := w.heap.size + 1) (Grew.below (Below.refl _ _) hg h.lt (fun k hk => (h.own.lt k hk).1)) (by omega)⟩
theorem BRow.put (h : BRow w W c T v l) (hp : Puts (w.heap.size + 1) v m W (.returned v') W') : BRow w W' c T v' m := by
  obtain ⟨v2, he, ho, hg⟩ := hp
  injection he with he
  subst he
  exact h.grow hg ho
theorem BRow.two (h : BRow w W c T v l) (x : UInt16) (hl : l.length + 2 ≤ 1000000) :
    Calls Try.prog 52 #[v, .int .i64 (x.toNat : Int)] W fun e W' => ∃ v', e = .returned v' ∧ BRow w W' c T v' (l ++ putN [x]) := by
  refine (rTwo_any v l.length l x (w.heap.size + 1) W h.own hl h.lt).mono ?_
  rintro e W' ⟨v2, rfl, ho, hg⟩
  exact ⟨v2, rfl, h.grow hg ho⟩
theorem BRow.words (h : BRow w W c T v l) {a : Option Addr} {n k : Nat} {s : List UInt16} (hS : Sl b16 w w.heap.size a n k s) (hn : 0 < n) (hl : l.length + 2 * n ≤ 1000000) :
    Calls Try.prog 53 #[v, .slice a n k] W fun e W' => ∃ v', e = .returned v' ∧ BRow w W' c T v' (l ++ putN s) := by
  obtain ⟨b, off, rfl, hb, _⟩ := hS.cells hn
  refine (rWords_any v l.length l _ n k s (w.heap.size + 1) W h.own ((hS.below h.box.below (Nat.le_refl _)).more (Nat.le_of_lt h.box.lt)) ?_ hl h.lt).mono ?_
  · intro x hx e
    injection hx with hx
    subst hx
    have := (h.own.lt _ e).1
    simp only at this
    omega
  · rintro e W' ⟨v2, rfl, ho, hg⟩
    exact ⟨v2, rfl, h.grow hg ho⟩
theorem BRow.first (hb : Box1 w c T W) (x : UInt8) : BRow w (W.alloc (.cells #[b8 x] 5)) c T (.slice (some ⟨W.heap.size, 0, none⟩) 1 1) [x] :=
  ⟨own_low (own_of_row (cs := [b8 x]) (n := 1) (heap_alloc_new W (.cells #[b8 x] 5)) (Nat.le_refl _) (by simp; unfold maxLen; omega) (Nat.le_refl _)) hb.lt, hb.on ((Below.refl _ _).alloc (Nat.le_refl _) _)⟩
theorem BRow.gives {o : Option (List UInt8)} (h : BRow w W c T v l) (ho : o = some l) : Gives o w (.returned (.tuple #[v, .int .i64 0])) W := by
  obtain ⟨a, k, rfl, hs⟩ := Sl.of_own h.own
  refine gives_some ho hs h.box.below fun x hx => ?_
  subst hx
  have := (h.own.lt x.block rfl).1
  omega
end
-- BYTES
theorem BRow.two_at {w W : World} {c : Array Value} {T : TypeId} {v : Value} {l : List UInt8} (h : BRow w W c T v l) (x : UInt16) (z : Int) (hz : z = (x.toNat : Int)) (hl : l.length + 2 ≤ 1000000) :
    Calls Try.prog 52 #[v, .int .i64 z] W fun e W' => ∃ v', e = .returned v' ∧ BRow w W' c T v' (l ++ putN [x]) := by
  subst hz
  exact h.two x hl
/-- A list that is read, apart from the row. -/
def Holds {α : Type} (f : α → Value) (W : World) (v : Value) (a : Option Addr) (n k : Nat) (s : List α) : Prop := Sl f W W.heap.size a n k s ∧ ∀ x : Addr, a = some x → v.ownBlock ≠ some x.block ∧ x.block < W.heap.size
theorem Holds.grew {α : Type} {f : α → Value} {W W' : World} {v v' : Value} {a : Option Addr} {n k : Nat} {s : List α} (h : Holds f W v a n k s) (hg : Grew W v W' v') : Holds f W' v' a n k s := by
  refine ⟨(h.1.grew hg (fun x hx => (h.2 x hx).1)).more hg.size, fun x hx => ⟨fun e => ?_, Nat.lt_of_lt_of_le (h.2 x hx).2 hg.size⟩⟩
  rcases hg.new _ e with e | e
  · exact (h.2 x hx).1 e
  · have := (h.2 x hx).2; omega
theorem BRow.twoG {w W : World} {c : Array Value} {T : TypeId} {v : Value} {l : List UInt8} (h : BRow w W c T v l) (x : UInt16) (hl : l.length + 2 ≤ 1000000) :
    Calls Try.prog 52 #[v, .int .i64 (x.toNat : Int)] W fun e W' => ∃ v', e = .returned v' ∧ BRow w W' c T v' (l ++ putN [x]) ∧ Grew W v W' v' := by
  refine (rTwo_any v l.length l x (w.heap.size + 1) W h.own hl h.lt).mono ?_
  rintro e W' ⟨v2, rfl, ho, hg⟩
  exact ⟨v2, rfl, h.grow hg ho, hg⟩
theorem BRow.below {w W W' : World} {c : Array Value} {T : TypeId} {v : Value} {l : List UInt8} (h : BRow w W c T v l) (hb : Below W.heap.size W W') : BRow w W' c T v l := ⟨own_below h.own hb, h.box.on hb⟩
theorem BRow.more {w W W' : World} {c : Array Value} {T : TypeId} {v v' : Value} {l m : List UInt8} {n : Nat} {xs : List Value} (h : BRow w W c T v l) (hg : Grew W v W' v') (ho : W'.ownsRow (w.heap.size + 1) 5 1 v' n (l.map b8 ++ xs)) (hx : xs = m.map b8) : BRow w W' c T v' (l ++ m) := by
  refine h.grow hg ?_
  have hl := ho.1
  subst hx
  rw [← List.map_append] at ho hl
  rw [show (l ++ m).length = n by simpa using hl]
  exact ho
theorem step_append_grew {P : Program} {w : World} {ops : Array Oper} {o : Oper} {a : Act} {K : Act → World → Prop} {Q : Exit → Act → World → Prop} {E : Prop} (hgd : o.guard = none) (s x : Operand) (t : TypeId)
    (ho : o.op = .call { callee := .builtin .append, args := #[s, x], argTypes := #[t, t] })
    (base : Nat) (e : TypeId) (i : TypeInfo) (z : Value) (bytes : Nat) (ht : P.underlying t = some (.slice e)) (hi : P.info? e = some i) (hz : i.zero = some z)
    (hsize : i.size = 1) (hby : i.bytes = bytes) (hzs : z.cells.size = 1)
    (v : Value) (n : Nat) (xs : List Value) (hs : a.eval s = v) (hown : w.ownsRow base e 1 v n xs)
    (ad : Addr) (m c : Nat) (news : List Value) (hx : a.eval x = .slice (some ad) m c) (hl : news.length = m) (hnews : ∀ j u, news[j]? = some u → w.cell? (ad.add j) = some u) (h1 : ∀ u ∈ news, u.oneCell' = true)
    (hm : 0 < m) (h63 : n + m ≤ maxLen) (hbytes : (n + m) * bytes ≤ 140737488355328) (hbase : base ≤ w.heap.size)
    (h : ∀ v' w', w'.ownsRow base e 1 v' (n + m) (xs ++ news) → Grew w v w' v' → K (a.put o.dst v') w') :
    if Region.wanted o (yielded ops a.tmps) = true then Oper.wp P o a w K Q else E :=
  step_append_lies w hgd s x t ho base e i z 1 bytes ht hi hz hsize hby hzs (by omega) v n xs hs hown ad m c news hx (by rw [hl, Nat.mul_one]) hnews h1 hm h63 hbytes hbase w.heap.size rfl (fun g cap w' h1 h2 h3 _ => h _ _ h1 ⟨h2, fun k hk => by
    have hk' : g = k := by simpa [Value.ownBlock] using hk
    subst hk'
    rcases h3 with h3 | h3
    · exact .inl h3
    · exact .inr (by omega)⟩)
theorem wrap_u16 (x : UInt16) : IntKind.i64.wrap (x.toNat : Int) = (x.toNat : Int) := by
  have := x.toNat_lt
  show (if (true && decide ((x.toNat : Int) % 2 ^ 64 ≥ 2 ^ (64 - 1))) = true then (x.toNat : Int) % 2 ^ 64 - 2 ^ 64 else (x.toNat : Int) % 2 ^ 64) = (x.toNat : Int)
  rw [if_neg (by simp; omega)]
  omega
theorem BRow.two_atG {w W : World} {c : Array Value} {T : TypeId} {v : Value} {l : List UInt8} (h : BRow w W c T v l) (x : UInt16) (z : Int) (hz : z = (x.toNat : Int)) (hl : l.length + 2 ≤ 1000000) :
    Calls Try.prog 52 #[v, .int .i64 z] W fun e W' => ∃ v', e = .returned v' ∧ BRow w W' c T v' (l ++ putN [x]) ∧ Grew W v W' v' := by
  subst hz
  exact h.twoG x hl
theorem byte_wrap {ws : List UInt16} (h : ws.length ≤ 123) : [Value.int .u8 (IntKind.u8.wrap (IntKind.i64.wrap (2 * (ws.length : Int))))] = [UInt8.ofNat (putN ws).length].map b8 := by
  have h1 : IntKind.i64.wrap (2 * (ws.length : Int)) = 2 * (ws.length : Int) := by
    show (if (true && decide ((2 * (ws.length : Int)) % 2 ^ 64 ≥ 2 ^ (64 - 1))) = true then (2 * (ws.length : Int)) % 2 ^ 64 - 2 ^ 64 else (2 * (ws.length : Int)) % 2 ^ 64) = 2 * (ws.length : Int)
    rw [if_neg (by simp; omega)]
    omega
  rw [h1, length_putN]
  show [Value.int .u8 ((2 * (ws.length : Int)) % 256)] = [b8 (UInt8.ofNat (2 * ws.length))]
  unfold b8
  congr 2
theorem len_val {n : Nat} (h : (n : Int) ≤ 121) : (n : Int) = ((UInt16.ofNat n).toNat : Int) := by simp; omega
theorem grew_ahead {w w' : World} {v v' : Value} (h : Grew w.drew v w' v') : Grew w v w' v' :=
  ⟨⟨h.grown.os, h.grown.tape, h.grown.output, h.grown.size, h.grown.block⟩, h.new⟩
theorem byte_of {k : Nat} (h : k ≤ 255) : Value.int .u8 (k : Int) = b8 (UInt8.ofNat k) := by unfold b8; congr 1; simp; omega
theorem bytes_right {f : UInt8} {F : Row} (hr : rowN f.toNat = some F) {a m t : UInt16} {ws : List UInt16} {bs : List Bool} (h : rightN ⟨f, a, m, t, ws, bs⟩ = true) : bytesN ⟨f, a, m, t, ws, bs⟩ = some (writeN F ⟨f, a, m, t, ws, bs⟩) ∧ fitN F ⟨f, a, m, t, ws, bs⟩ = true := by
  have hf : fitN F ⟨f, a, m, t, ws, bs⟩ = true := by rw [← right_row' hr]; exact h
  exact ⟨bytesN_some.2 ⟨F, hr, hf, rfl⟩, hf⟩
theorem lenP (l : List UInt16) : (putN l).length = 2 * l.length := length_putN l

set_option maxRecDepth 100000 in
set_option maxHeartbeats 2000000 in
theorem rBytes_any (a : Req) (aw : Option Addr) (cw : Nat) (ab : Option Addr) (cb : Nat) (w : World) (hA : AskAt w w.heap.size a aw cw ab cb) (hnw : a.words.length ≤ 1000000) (hnb : a.bits.length ≤ 1000000) :
    Calls Try.prog 9 #[askV a aw cw ab cb] w (Gives (bytesN a) w) := by
  have hw := hA.words
  have hb := hA.bits
  obtain ⟨f1, a1, m1, t1, ws, bs⟩ := a
  simp only at hnw hnb hw hb
  have HW := Lib.hid hw
  have HB := Lib.hid hb
  have hf8 := f1.toNat_lt
  have hm16 := m1.toNat_lt
  have ha16 := a1.toNat_lt
  have ht16 := t1.toNat_lt
  obtain ⟨i0, hi0, hz0, hz1, hz2⟩ := info_parts info8
  have hz2' : i0.bytes = 1 := hz2
  have HX := Lib.hid (And.intro hi0 (And.intro hz0 (And.intro hz1 hz2')))
  have HBX0 := Lib.hid (Box1.new w #[b8 f1, b16 a1, b16 m1, b16 t1, .slice aw ws.length cw, .slice ab bs.length cb] 26)
  clear hA hw hb hi0 hz0 hz1 hz2 hz2'
  cases hrf : rightN ⟨f1, a1, m1, t1, ws, bs⟩ with
  | false =>
    have HRF := Lib.hid hrf
    have HN := Lib.hid (rightN_false.1 hrf)
    clear hrf
    go_enter Try.func9, Try.ntmps9
    go_wp2_with fail
    generalize w.alloc (.cells #[b8 f1, b16 a1, b16 m1, b16 t1, .slice aw ws.length cw, .slice ab bs.length cb] 26) = W0 at *
    refine (rRight_any ⟨f1, a1, m1, t1, ws, bs⟩ aw cw ab cb W0 hnw hnb).mono ?_
    rw [HRF.out]
    rintro e w2 ⟨rfl, hb2⟩
    have HBX := Lib.hid (HBX0.out.on hb2)
    clear hb2 HBX0
    go_wp2_with fail
    go_ret2
    exact gives_none HN.out HBX.out.below
  | true =>
    have HRF := Lib.hid hrf
    by_cases g1 : f1.toNat = 1
    · obtain ⟨hby, hfit⟩ := bytes_right (f := f1) (F := ⟨2000, 0, 0, false⟩) (by rw [g1]; rfl) hrf
      rw [fit_1] at hfit
      have hfit2 := of_decide_eq_true hfit
      have HBY : Hid (bytesN ⟨f1, a1, m1, t1, ws, bs⟩ = some ([f1] ++ putN [a1] ++ putN [m1])) := Lib.hid (hby.trans (by
        obtain rfl : ws = [] := List.eq_nil_of_length_eq_zero hfit2.2.2.1
        simp [writeN, listed, listN, putN]))
      have HFIT := Lib.hid hfit2
      have k5 : ((f1.toNat : Int) == 5) = false := by simp; omega
      have k6 : ((f1.toNat : Int) == 6) = false := by simp; omega
      have k15 : ((f1.toNat : Int) == 15) = false := by simp; omega
      have k16 : ((f1.toNat : Int) == 16) = false := by simp; omega
      have k23 : ((f1.toNat : Int) == 23) = false := by simp; omega
      clear hby hrf hfit hfit2 g1
      go_enter Try.func9, Try.ntmps9
      go_wp2_with fail
      generalize w.alloc (.cells #[b8 f1, b16 a1, b16 m1, b16 t1, .slice aw ws.length cw, .slice ab bs.length cb] 26) = W0 at *
      refine (rRight_any ⟨f1, a1, m1, t1, ws, bs⟩ aw cw ab cb W0 hnw hnb).mono ?_
      rw [HRF.out]
      rintro e w2 ⟨rfl, hb2⟩
      have HBX := Lib.hid (HBX0.out.on hb2)
      clear hb2 HBX0
      have C0 := HBX.out.c
      have D0 := fun (X : Obj) (o : Nat) => (World.cell?_alloc_lt w2 X ⟨w.heap.size, o, none⟩ HBX.out.lt).trans (HBX.out.c o)
      go_wp2_with fail
      refine (BRow.two (BRow.first HBX.out f1) a1 (by simp)).mono ?_
      rintro e w3 ⟨v3, rfl, h3⟩
      have H3 := Lib.hid h3
      clear h3 C0 D0
      have C3 := H3.out.box.c
      go_wp2_with fail
      refine (H3.out.two m1 (by simp [lenP])).mono ?_
      rintro e w4 ⟨v4, rfl, h4⟩
      have H4 := Lib.hid h4
      clear h4 C3 H3
      go_wp2_with fail
      go_ret2
      exact H4.out.gives HBY.out
    by_cases g2 : f1.toNat = 2
    · obtain ⟨hby, hfit⟩ := bytes_right (f := f1) (F := ⟨2000, 0, 0, false⟩) (by rw [g2]; rfl) hrf
      rw [fit_1] at hfit
      have hfit2 := of_decide_eq_true hfit
      have HBY : Hid (bytesN ⟨f1, a1, m1, t1, ws, bs⟩ = some ([f1] ++ putN [a1] ++ putN [m1])) := Lib.hid (hby.trans (by
        obtain rfl : ws = [] := List.eq_nil_of_length_eq_zero hfit2.2.2.1
        simp [writeN, listed, listN, putN]))
      have HFIT := Lib.hid hfit2
      have k5 : ((f1.toNat : Int) == 5) = false := by simp; omega
      have k6 : ((f1.toNat : Int) == 6) = false := by simp; omega
      have k15 : ((f1.toNat : Int) == 15) = false := by simp; omega
      have k16 : ((f1.toNat : Int) == 16) = false := by simp; omega
      have k23 : ((f1.toNat : Int) == 23) = false := by simp; omega
      clear hby hrf hfit hfit2 g1 g2
      go_enter Try.func9, Try.ntmps9
      go_wp2_with fail
      generalize w.alloc (.cells #[b8 f1, b16 a1, b16 m1, b16 t1, .slice aw ws.length cw, .slice ab bs.length cb] 26) = W0 at *
      refine (rRight_any ⟨f1, a1, m1, t1, ws, bs⟩ aw cw ab cb W0 hnw hnb).mono ?_
      rw [HRF.out]
      rintro e w2 ⟨rfl, hb2⟩
      have HBX := Lib.hid (HBX0.out.on hb2)
      clear hb2 HBX0
      have C0 := HBX.out.c
      have D0 := fun (X : Obj) (o : Nat) => (World.cell?_alloc_lt w2 X ⟨w.heap.size, o, none⟩ HBX.out.lt).trans (HBX.out.c o)
      go_wp2_with fail
      refine (BRow.two (BRow.first HBX.out f1) a1 (by simp)).mono ?_
      rintro e w3 ⟨v3, rfl, h3⟩
      have H3 := Lib.hid h3
      clear h3 C0 D0
      have C3 := H3.out.box.c
      go_wp2_with fail
      refine (H3.out.two m1 (by simp [lenP])).mono ?_
      rintro e w4 ⟨v4, rfl, h4⟩
      have H4 := Lib.hid h4
      clear h4 C3 H3
      go_wp2_with fail
      go_ret2
      exact H4.out.gives HBY.out
    by_cases g3 : f1.toNat = 3
    · obtain ⟨hby, hfit⟩ := bytes_right (f := f1) (F := ⟨125, 0, 0, false⟩) (by rw [g3]; rfl) hrf
      rw [fit_3] at hfit
      have hfit2 := of_decide_eq_true hfit
      have HBY : Hid (bytesN ⟨f1, a1, m1, t1, ws, bs⟩ = some ([f1] ++ putN [a1] ++ putN [m1])) := Lib.hid (hby.trans (by
        obtain rfl : ws = [] := List.eq_nil_of_length_eq_zero hfit2.2.2.1
        simp [writeN, listed, listN, putN]))
      have HFIT := Lib.hid hfit2
      have k5 : ((f1.toNat : Int) == 5) = false := by simp; omega
      have k6 : ((f1.toNat : Int) == 6) = false := by simp; omega
      have k15 : ((f1.toNat : Int) == 15) = false := by simp; omega
      have k16 : ((f1.toNat : Int) == 16) = false := by simp; omega
      have k23 : ((f1.toNat : Int) == 23) = false := by simp; omega
      clear hby hrf hfit hfit2 g1 g2 g3
      go_enter Try.func9, Try.ntmps9
      go_wp2_with fail
      generalize w.alloc (.cells #[b8 f1, b16 a1, b16 m1, b16 t1, .slice aw ws.length cw, .slice ab bs.length cb] 26) = W0 at *
      refine (rRight_any ⟨f1, a1, m1, t1, ws, bs⟩ aw cw ab cb W0 hnw hnb).mono ?_
      rw [HRF.out]
      rintro e w2 ⟨rfl, hb2⟩
      have HBX := Lib.hid (HBX0.out.on hb2)
      clear hb2 HBX0
      have C0 := HBX.out.c
      have D0 := fun (X : Obj) (o : Nat) => (World.cell?_alloc_lt w2 X ⟨w.heap.size, o, none⟩ HBX.out.lt).trans (HBX.out.c o)
      go_wp2_with fail
      refine (BRow.two (BRow.first HBX.out f1) a1 (by simp)).mono ?_
      rintro e w3 ⟨v3, rfl, h3⟩
      have H3 := Lib.hid h3
      clear h3 C0 D0
      have C3 := H3.out.box.c
      go_wp2_with fail
      refine (H3.out.two m1 (by simp [lenP])).mono ?_
      rintro e w4 ⟨v4, rfl, h4⟩
      have H4 := Lib.hid h4
      clear h4 C3 H3
      go_wp2_with fail
      go_ret2
      exact H4.out.gives HBY.out
    by_cases g4 : f1.toNat = 4
    · obtain ⟨hby, hfit⟩ := bytes_right (f := f1) (F := ⟨125, 0, 0, false⟩) (by rw [g4]; rfl) hrf
      rw [fit_3] at hfit
      have hfit2 := of_decide_eq_true hfit
      have HBY : Hid (bytesN ⟨f1, a1, m1, t1, ws, bs⟩ = some ([f1] ++ putN [a1] ++ putN [m1])) := Lib.hid (hby.trans (by
        obtain rfl : ws = [] := List.eq_nil_of_length_eq_zero hfit2.2.2.1
        simp [writeN, listed, listN, putN]))
      have HFIT := Lib.hid hfit2
      have k5 : ((f1.toNat : Int) == 5) = false := by simp; omega
      have k6 : ((f1.toNat : Int) == 6) = false := by simp; omega
      have k15 : ((f1.toNat : Int) == 15) = false := by simp; omega
      have k16 : ((f1.toNat : Int) == 16) = false := by simp; omega
      have k23 : ((f1.toNat : Int) == 23) = false := by simp; omega
      clear hby hrf hfit hfit2 g1 g2 g3 g4
      go_enter Try.func9, Try.ntmps9
      go_wp2_with fail
      generalize w.alloc (.cells #[b8 f1, b16 a1, b16 m1, b16 t1, .slice aw ws.length cw, .slice ab bs.length cb] 26) = W0 at *
      refine (rRight_any ⟨f1, a1, m1, t1, ws, bs⟩ aw cw ab cb W0 hnw hnb).mono ?_
      rw [HRF.out]
      rintro e w2 ⟨rfl, hb2⟩
      have HBX := Lib.hid (HBX0.out.on hb2)
      clear hb2 HBX0
      have C0 := HBX.out.c
      have D0 := fun (X : Obj) (o : Nat) => (World.cell?_alloc_lt w2 X ⟨w.heap.size, o, none⟩ HBX.out.lt).trans (HBX.out.c o)
      go_wp2_with fail
      refine (BRow.two (BRow.first HBX.out f1) a1 (by simp)).mono ?_
      rintro e w3 ⟨v3, rfl, h3⟩
      have H3 := Lib.hid h3
      clear h3 C0 D0
      have C3 := H3.out.box.c
      go_wp2_with fail
      refine (H3.out.two m1 (by simp [lenP])).mono ?_
      rintro e w4 ⟨v4, rfl, h4⟩
      have H4 := Lib.hid h4
      clear h4 C3 H3
      go_wp2_with fail
      go_ret2
      exact H4.out.gives HBY.out
    by_cases g5 : f1.toNat = 5
    · obtain ⟨hby, hfit⟩ := bytes_right (f := f1) (F := ⟨0, 1, 0, false⟩) (by rw [g5]; rfl) hrf
      rw [fit_5] at hfit
      have hfit2 := of_decide_eq_true hfit
      have HBY : Hid (bytesN ⟨f1, a1, m1, t1, ws, bs⟩ = some ([f1] ++ putN [a1] ++ putN [if bs.getD 0 false = true then 65280 else 0])) := Lib.hid (hby.trans (by
        skip
        simp [writeN, listed, listN, putN]))
      have HFIT := Lib.hid hfit2
      have k5 : ((f1.toNat : Int) == 5) = true := by simp; omega
      clear hby hrf hfit hfit2 g1 g2 g3 g4 g5
      obtain ⟨x, rfl⟩ : ∃ x, bs = [x] := by
        match bs, HFIT.out.2.1 with
        | [x], _ => exact ⟨x, rfl⟩
      obtain ⟨bb, off, x', rfl, hbb, hx', hcx⟩ := HB.out.at_ (k := 0) (by simp)
      obtain rfl : x = x' := by simpa using hx'
      rw [Nat.add_zero] at hcx
      clear hx'
      simp only [List.length_cons, List.length_nil, Nat.zero_add] at *
      go_enter Try.func9, Try.ntmps9
      go_wp2_with fail
      generalize w.alloc (.cells #[b8 f1, b16 a1, b16 m1, b16 t1, .slice aw ws.length cw, .slice (some ⟨bb, off, none⟩) 1 cb] 26) = W0 at *
      refine (rRight_any ⟨f1, a1, m1, t1, ws, [x]⟩ aw cw (some ⟨bb, off, none⟩) cb W0 hnw hnb).mono ?_
      rw [HRF.out]
      rintro e w2 ⟨rfl, hb2⟩
      have HBX := Lib.hid (HBX0.out.on hb2)
      clear hb2 HBX0
      have C0 := HBX.out.c
      have D0 := fun (X : Obj) (o : Nat) => (World.cell?_alloc_lt w2 X ⟨w.heap.size, o, none⟩ HBX.out.lt).trans (HBX.out.c o)
      go_wp2_with fail
      refine (BRow.two (BRow.first HBX.out f1) a1 (by simp)).mono ?_
      rintro e w3 ⟨v3, rfl, h3⟩
      have H3 := Lib.hid h3
      clear h3 C0 D0
      have C3 := H3.out.box.c
      have hc3 : w3.cell? ⟨bb, off, none⟩ = some (.bool x) := (H3.out.box.below.cell (p := ⟨bb, off, none⟩) hbb).trans hcx
      cases x
      · go_wp2_with fail
        refine (H3.out.two_at 0 _ (by rfl) (by simp [lenP])).mono ?_
        rintro e w4 ⟨v4, rfl, h4⟩
        have H4 := Lib.hid h4
        clear h4 C3 H3
        go_wp2_with fail
        go_ret2
        exact H4.out.gives HBY.out
      · go_wp2_with fail
        refine (H3.out.two_at 65280 _ (by rfl) (by simp [lenP])).mono ?_
        rintro e w4 ⟨v4, rfl, h4⟩
        have H4 := Lib.hid h4
        clear h4 C3 H3
        go_wp2_with fail
        go_ret2
        exact H4.out.gives HBY.out
    by_cases g6 : f1.toNat = 6
    · obtain ⟨hby, hfit⟩ := bytes_right (f := f1) (F := ⟨0, 0, 1, false⟩) (by rw [g6]; rfl) hrf
      rw [fit_6] at hfit
      have hfit2 := of_decide_eq_true hfit
      have HBY : Hid (bytesN ⟨f1, a1, m1, t1, ws, bs⟩ = some ([f1] ++ putN [a1] ++ putN ws)) := Lib.hid (hby.trans (by
        skip
        simp [writeN, listed, listN, putN]))
      have HFIT := Lib.hid hfit2
      have k5 : ((f1.toNat : Int) == 5) = false := by simp; omega
      have k6 : ((f1.toNat : Int) == 6) = true := by simp; omega
      clear hby hrf hfit hfit2 g1 g2 g3 g4 g5 g6
      obtain ⟨x, rfl⟩ : ∃ x, ws = [x] := by
        match ws, HFIT.out.2.2.1 with
        | [x], _ => exact ⟨x, rfl⟩
      obtain ⟨bb, off, x', rfl, hbb, hx', hcx⟩ := HW.out.at_ (k := 0) (by simp)
      obtain rfl : x = x' := by simpa using hx'
      rw [Nat.add_zero] at hcx
      clear hx'
      simp only [List.length_cons, List.length_nil, Nat.zero_add] at *
      have hx16 := x.toNat_lt
      go_enter Try.func9, Try.ntmps9
      go_wp2_with fail
      generalize w.alloc (.cells #[b8 f1, b16 a1, b16 m1, b16 t1, .slice (some ⟨bb, off, none⟩) 1 cw, .slice ab bs.length cb] 26) = W0 at *
      refine (rRight_any ⟨f1, a1, m1, t1, [x], bs⟩ (some ⟨bb, off, none⟩) cw ab cb W0 hnw hnb).mono ?_
      rw [HRF.out]
      rintro e w2 ⟨rfl, hb2⟩
      have HBX := Lib.hid (HBX0.out.on hb2)
      clear hb2 HBX0
      have C0 := HBX.out.c
      have D0 := fun (X : Obj) (o : Nat) => (World.cell?_alloc_lt w2 X ⟨w.heap.size, o, none⟩ HBX.out.lt).trans (HBX.out.c o)
      go_wp2_with fail
      refine (BRow.two (BRow.first HBX.out f1) a1 (by simp)).mono ?_
      rintro e w3 ⟨v3, rfl, h3⟩
      have H3 := Lib.hid h3
      clear h3 C0 D0
      have C3 := H3.out.box.c
      have hc3 : w3.cell? ⟨bb, off, none⟩ = some (b16 x) := (H3.out.box.below.cell (p := ⟨bb, off, none⟩) hbb).trans hcx
      go_wp2_with fail
      refine (H3.out.two x (by simp [lenP])).mono ?_
      rintro e w4 ⟨v4, rfl, h4⟩
      have H4 := Lib.hid h4
      clear h4 C3 H3 hc3
      go_wp2_with fail
      go_ret2
      exact H4.out.gives HBY.out
    by_cases g15 : f1.toNat = 15
    · obtain ⟨hby, hfit⟩ := bytes_right (f := f1) (F := ⟨1968, 1968, 0, false⟩) (by rw [g15]; rfl) hrf
      rw [fit_15] at hfit
      have hfit2 := of_decide_eq_true hfit
      have HBY : Hid (bytesN ⟨f1, a1, m1, t1, ws, bs⟩ = some ([f1] ++ putN [a1] ++ putN [m1] ++ [UInt8.ofNat (packN bs).length] ++ packN bs)) := Lib.hid (hby.trans (by
        skip
        simp [writeN, listed, listN, putN]))
      have HFIT := Lib.hid hfit2
      have k5 : ((f1.toNat : Int) == 5) = false := by simp; omega
      have k6 : ((f1.toNat : Int) == 6) = false := by simp; omega
      have k15 : ((f1.toNat : Int) == 15) = true := by simp; omega
      clear hby hrf hfit hfit2 g1 g2 g3 g4 g5 g6 g15
      go_enter Try.func9, Try.ntmps9
      go_wp2_with fail
      generalize w.alloc (.cells #[b8 f1, b16 a1, b16 m1, b16 t1, .slice aw ws.length cw, .slice ab bs.length cb] 26) = W0 at *
      refine (rRight_any ⟨f1, a1, m1, t1, ws, bs⟩ aw cw ab cb W0 hnw hnb).mono ?_
      rw [HRF.out]
      rintro e w2 ⟨rfl, hb2⟩
      have HBX := Lib.hid (HBX0.out.on hb2)
      clear hb2 HBX0
      have C0 := HBX.out.c
      have D0 := fun (X : Obj) (o : Nat) => (World.cell?_alloc_lt w2 X ⟨w.heap.size, o, none⟩ HBX.out.lt).trans (HBX.out.c o)
      go_wp2_with fail
      refine (BRow.two (BRow.first HBX.out f1) a1 (by simp)).mono ?_
      rintro e w3 ⟨v3, rfl, h3⟩
      have H3 := Lib.hid h3
      clear h3 C0 D0
      have C3 := H3.out.box.c
      have hpl : (packN bs).length ≤ 255 := by rw [length_packN]; have := HFIT.out; omega
      go_wp2_with fail
      refine (rPack_any ab bs.length cb bs w3 ((HB.out.below H3.out.box.below (Nat.le_refl _)).more (Nat.le_of_lt H3.out.box.lt)) (by omega)).mono ?_
      rintro e w4 ⟨ap, cp, rfl, hsp, hb4, hxp⟩
      have hH4 : Holds b8 w4 v3 ap (packN bs).length cp (packN bs) := ⟨hsp, fun x hx => ⟨fun e => by have := (H3.out.own.lt _ e).2; have := hxp x hx; omega, by
        subst hx
        obtain ⟨q, off, e1, h1, _⟩ := hsp.cells (by rw [length_packN]; have := HFIT.out; omega)
        injection e1 with e1
        subst e1
        exact h1⟩⟩
      have H4 := Lib.hid (H3.out.below hb4)
      have HH4 := Lib.hid hH4
      clear hsp hb4 hxp hH4 C3 H3
      have C4 := H4.out.box.c
      go_wp2_with fail
      refine (H4.out.twoG m1 (by simp [lenP])).mono ?_
      rintro e w5 ⟨v5, rfl, h5, hg5⟩
      have H5 := Lib.hid h5
      have HH5 := Lib.hid (HH4.out.grew hg5)
      clear h5 hg5 C4 H4 HH4
      go_wp2_with (first
        | (at_builtin; refine wpList_append_vals rfl (.tmp 51) (.tmp 55) 27 rfl (w.heap.size + 1) 5 i0 (.int .u8 0) 1 Try.underlying27 HX.out.1 HX.out.2.1 HX.out.2.2.1 HX.out.2.2.2 rfl v5 _ _ rfl (H5.out.own.alloc _) ⟨w5.heap.size, 0, none⟩ 1 1 [.int .u8 ((packN bs).length : Int)] rfl rfl (new_cells w5 #[.int .u8 ((packN bs).length : Int)] _) (by intro u hu; simp at hu; subst hu; rfl) (by simp [lenP]; unfold maxLen; omega) (by simp [lenP]) (by have := H5.out.lt; simp; omega) ?_; intro v6 w6 hown6 hgrow6; have H6 := Lib.hid (H5.out.more hgrow6.alloc hown6 (m := [UInt8.ofNat (packN bs).length]) (by rw [byte_of hpl]; rfl)); have HH6 := Lib.hid (HH5.out.grew hgrow6.alloc); clear hown6 hgrow6)
        | (at_builtin; refine wpList_append_list (f := b8) (fun _ => rfl) rfl (.tmp 57) (.tmp 58) 27 rfl (w.heap.size + 1) 5 i0 (.int .u8 0) 1 Try.underlying27 HX.out.1 HX.out.2.1 HX.out.2.2.1 HX.out.2.2.2 rfl v6 _ _ rfl H6.out.own ap (packN bs).length cp rfl HH6.out.1 (by simp [lenP]; unfold maxLen; omega) (by simp [lenP]; omega) H6.out.lt ?_; intro v7 w7 hown7 hgrow7; have H7 := Lib.hid (H6.out.more hgrow7 hown7 (m := packN bs) rfl); clear hown7 hgrow7))
      go_ret2
      exact H7.out.gives HBY.out
    by_cases g16 : f1.toNat = 16
    · obtain ⟨hby, hfit⟩ := bytes_right (f := f1) (F := ⟨123, 0, 123, false⟩) (by rw [g16]; rfl) hrf
      rw [fit_16] at hfit
      have hfit2 := of_decide_eq_true hfit
      have HBY : Hid (bytesN ⟨f1, a1, m1, t1, ws, bs⟩ = some ([f1] ++ putN [a1] ++ putN [m1] ++ [UInt8.ofNat (putN ws).length] ++ putN ws)) := Lib.hid (hby.trans (by
        skip
        simp [writeN, listed, listN, putN]))
      have HFIT := Lib.hid hfit2
      have k5 : ((f1.toNat : Int) == 5) = false := by simp; omega
      have k6 : ((f1.toNat : Int) == 6) = false := by simp; omega
      have k15 : ((f1.toNat : Int) == 15) = false := by simp; omega
      have k16 : ((f1.toNat : Int) == 16) = true := by simp; omega
      clear hby hrf hfit hfit2 g1 g2 g3 g4 g5 g6 g15 g16
      go_enter Try.func9, Try.ntmps9
      go_wp2_with fail
      generalize w.alloc (.cells #[b8 f1, b16 a1, b16 m1, b16 t1, .slice aw ws.length cw, .slice ab bs.length cb] 26) = W0 at *
      refine (rRight_any ⟨f1, a1, m1, t1, ws, bs⟩ aw cw ab cb W0 hnw hnb).mono ?_
      rw [HRF.out]
      rintro e w2 ⟨rfl, hb2⟩
      have HBX := Lib.hid (HBX0.out.on hb2)
      clear hb2 HBX0
      have C0 := HBX.out.c
      have D0 := fun (X : Obj) (o : Nat) => (World.cell?_alloc_lt w2 X ⟨w.heap.size, o, none⟩ HBX.out.lt).trans (HBX.out.c o)
      go_wp2_with fail
      refine (BRow.two (BRow.first HBX.out f1) a1 (by simp)).mono ?_
      rintro e w3 ⟨v3, rfl, h3⟩
      have H3 := Lib.hid h3
      clear h3 C0 D0
      have C3 := H3.out.box.c
      have hpl : (putN ws).length ≤ 255 := by rw [lenP]; have := HFIT.out; omega
      have hwl : (ws.length : Int) ≤ 123 := by have := HFIT.out; omega
      go_wp2_with fail
      have hk2 : w3.cell? ⟨w.heap.size, 2, none⟩ = some (b16 m1) := C3 2
      have hk4 : w3.cell? ⟨w.heap.size, 4, none⟩ = some (.slice aw ws.length cw) := C3 4
      have hlt3 : w.heap.size < w3.heap.size := H3.out.box.lt
      clear C3
      have HT0 := Lib.hid ((H3.out.below (Below.refl w3.heap.size w3).drew).two_atG m1 _ (wrap_u16 m1) (by simp [lenP]))
      have HT1 := Lib.hid ((H3.out.below ((Below.refl w3.heap.size w3).alloc (Nat.le_refl _) (.cells #[.int .u8 (IntKind.u8.wrap (IntKind.i64.wrap (2 * (ws.length : Int))))] 5)).drew).two_atG m1 _ (wrap_u16 m1) (by simp [lenP]))
      have hne3 : ∀ k, v3.ownBlock = some k → k < w3.heap.size := fun k hk => (H3.out.own.lt k hk).2
      go_region_held3 (fun w' => w'.cell? ⟨w.heap.size, 2, none⟩ = some (b16 m1) ∧ w'.cell? ⟨w.heap.size, 4, none⟩ = some (.slice aw ws.length cw))
        (first
          | with_reducible exact ⟨hk2, hk4⟩
          | with_reducible exact ⟨hq2, hq4⟩
          | go_keep)
        (first
          | (go_at_call 52; (with_reducible refine HT0.out.mono ?_); rintro e w5 ⟨v5, rfl, h5, hg5⟩; have H5 := Lib.hid h5; have HG5 := Lib.hid True.intro; have hq2 : w5.cell? ⟨w.heap.size, 2, none⟩ = some (b16 m1) := h5.box.c 2; have hq4 : w5.cell? ⟨w.heap.size, 4, none⟩ = some (.slice aw ws.length cw) := h5.box.c 4; clear h5 hg5)
          | (go_at_call 52; (with_reducible refine HT1.out.mono ?_); rintro e w5 ⟨v5, rfl, h5, hg5⟩; have H5 := Lib.hid h5; have HR5 := Lib.hid ((hg5.grown.block w3.heap.size (by show w3.heap.size < (w3.alloc _).heap.size; simp) (fun e => by have := hne3 _ e.symm; omega)).trans (heap_alloc_new w3 (.cells #[.int .u8 (IntKind.u8.wrap (IntKind.i64.wrap (2 * (ws.length : Int))))] 5))); have hq2 : w5.cell? ⟨w.heap.size, 2, none⟩ = some (b16 m1) := h5.box.c 2; have hq4 : w5.cell? ⟨w.heap.size, 4, none⟩ = some (.slice aw ws.length cw) := h5.box.c 4; clear h5 hg5)
          | (revert HG5; intro HG5; refine step_append_grew (by rfl) _ _ _ (by rfl) (w.heap.size + 1) 5 i0 (.int .u8 0) 1 Try.underlying27 HX.out.1 HX.out.2.1 HX.out.2.2.1 HX.out.2.2.2 rfl v5 _ _ (by rfl) (H5.out.own.alloc _) ⟨w5.heap.size, 0, none⟩ 1 1 [.int .u8 (IntKind.u8.wrap (IntKind.i64.wrap (2 * (ws.length : Int))))] (by rfl) (by rfl) (new_cells w5 #[.int .u8 (IntKind.u8.wrap (IntKind.i64.wrap (2 * (ws.length : Int))))] _) (by intro u hu; simp at hu; subst hu; rfl) (by omega) (by simp [lenP]; unfold maxLen; omega) (by simp [lenP]) (by have := H5.out.lt; simp; omega) ?_; intro v6 w6 hown6 hgrow6; have h6 := H5.out.more hgrow6.alloc hown6 (byte_wrap (by have := hwl; omega)); have H6 := Lib.hid h6; have hq2 : w6.cell? ⟨w.heap.size, 2, none⟩ = some (b16 m1) := h6.box.c 2; have hq4 : w6.cell? ⟨w.heap.size, 4, none⟩ = some (.slice aw ws.length cw) := h6.box.c 4; clear h6 hown6 hgrow6)
          | (revert HR5; intro HR5; refine step_append_grew (by rfl) _ _ _ (by rfl) (w.heap.size + 1) 5 i0 (.int .u8 0) 1 Try.underlying27 HX.out.1 HX.out.2.1 HX.out.2.2.1 HX.out.2.2.2 rfl v5 _ _ (by rfl) H5.out.own ⟨w3.heap.size, 0, none⟩ 1 1 [.int .u8 (IntKind.u8.wrap (IntKind.i64.wrap (2 * (ws.length : Int))))] (by rfl) (by rfl) (World.news_of_block (cs := #[.int .u8 (IntKind.u8.wrap (IntKind.i64.wrap (2 * (ws.length : Int))))]) HR5.out) (by intro u hu; simp at hu; subst hu; rfl) (by omega) (by simp [lenP]; unfold maxLen; omega) (by simp [lenP]) (by have := H5.out.lt; simp; omega) ?_; intro v6 w6 hown6 hgrow6; have h6 := H5.out.more hgrow6 hown6 (byte_wrap (by have := hwl; omega)); have H6 := Lib.hid h6; have hq2 : w6.cell? ⟨w.heap.size, 2, none⟩ = some (b16 m1) := h6.box.c 2; have hq4 : w6.cell? ⟨w.heap.size, 4, none⟩ = some (.slice aw ws.length cw) := h6.box.c 4; clear h6 hown6 hgrow6))
      all_goals
        clear hk2 hk4 hq2 hq4
        have C6 := H6.out.box.c
        go_wp2_with fail
        refine (H6.out.words HW.out (by have := HFIT.out; omega) (by simp [lenP]; omega)).mono ?_
        rintro e w7 ⟨v7, rfl, h7⟩
        have H7 := Lib.hid h7
        clear h7 C6
        go_wp2_with fail
        go_ret2
        exact H7.out.gives HBY.out
    by_cases g23 : f1.toNat = 23
    · obtain ⟨hby, hfit⟩ := bytes_right (f := f1) (F := ⟨125, 0, 121, true⟩) (by rw [g23]; rfl) hrf
      rw [fit_23] at hfit
      have hfit2 := of_decide_eq_true hfit
      have HBY : Hid (bytesN ⟨f1, a1, m1, t1, ws, bs⟩ = some ([f1] ++ putN [a1] ++ putN [m1] ++ putN [t1] ++ putN [UInt16.ofNat ws.length] ++ [UInt8.ofNat (putN ws).length] ++ putN ws)) := Lib.hid (hby.trans (by
        skip
        simp [writeN, listed, listN, putN]))
      have HFIT := Lib.hid hfit2
      have k5 : ((f1.toNat : Int) == 5) = false := by simp; omega
      have k6 : ((f1.toNat : Int) == 6) = false := by simp; omega
      have k15 : ((f1.toNat : Int) == 15) = false := by simp; omega
      have k16 : ((f1.toNat : Int) == 16) = false := by simp; omega
      have k23 : ((f1.toNat : Int) == 23) = true := by simp; omega
      clear hby hrf hfit hfit2 g1 g2 g3 g4 g5 g6 g15 g16 g23
      go_enter Try.func9, Try.ntmps9
      go_wp2_with fail
      generalize w.alloc (.cells #[b8 f1, b16 a1, b16 m1, b16 t1, .slice aw ws.length cw, .slice ab bs.length cb] 26) = W0 at *
      refine (rRight_any ⟨f1, a1, m1, t1, ws, bs⟩ aw cw ab cb W0 hnw hnb).mono ?_
      rw [HRF.out]
      rintro e w2 ⟨rfl, hb2⟩
      have HBX := Lib.hid (HBX0.out.on hb2)
      clear hb2 HBX0
      have C0 := HBX.out.c
      have D0 := fun (X : Obj) (o : Nat) => (World.cell?_alloc_lt w2 X ⟨w.heap.size, o, none⟩ HBX.out.lt).trans (HBX.out.c o)
      go_wp2_with fail
      refine (BRow.two (BRow.first HBX.out f1) a1 (by simp)).mono ?_
      rintro e w3 ⟨v3, rfl, h3⟩
      have H3 := Lib.hid h3
      clear h3 C0 D0
      have C3 := H3.out.box.c
      have hwl : (ws.length : Int) ≤ 121 := by have := HFIT.out; omega
      go_wp2_with fail
      have hk2 : w3.cell? ⟨w.heap.size, 2, none⟩ = some (b16 m1) := C3 2
      have hk3 : w3.cell? ⟨w.heap.size, 3, none⟩ = some (b16 t1) := C3 3
      have hk4 : w3.cell? ⟨w.heap.size, 4, none⟩ = some (.slice aw ws.length cw) := C3 4
      clear C3
      have HT0 := Lib.hid ((H3.out.below (Below.refl w3.heap.size w3).drew).two_atG m1 _ (wrap_u16 m1) (by simp [lenP]))
      go_region_held3 (fun w' => w'.cell? ⟨w.heap.size, 2, none⟩ = some (b16 m1) ∧ w'.cell? ⟨w.heap.size, 3, none⟩ = some (b16 t1) ∧ w'.cell? ⟨w.heap.size, 4, none⟩ = some (.slice aw ws.length cw))
        (first
          | with_reducible exact ⟨hk2, hk3, hk4⟩
          | with_reducible exact ⟨hr2, hr3, hr4⟩
          | with_reducible exact ⟨hp2, hp3, hp4⟩
          | with_reducible exact ⟨hq2, hq3, hq4⟩
          | go_keep)
        (first
          | (go_at_call 52; (with_reducible refine HT0.out.mono ?_); rintro e w4 ⟨v4, rfl, h4, hg4⟩; have H4 := Lib.hid h4; have hq2 : w4.cell? ⟨w.heap.size, 2, none⟩ = some (b16 m1) := h4.box.c 2; have hq3 : w4.cell? ⟨w.heap.size, 3, none⟩ = some (b16 t1) := h4.box.c 3; have hq4 : w4.cell? ⟨w.heap.size, 4, none⟩ = some (.slice aw ws.length cw) := h4.box.c 4; clear h4 hg4)
          | (go_at_call 52; (with_reducible refine (H4.out.two_atG t1 _ (wrap_u16 t1) (by simp [lenP])).mono ?_); rintro e w5 ⟨v5, rfl, h5, hg5⟩; have H5 := Lib.hid h5; have hr2 : w5.cell? ⟨w.heap.size, 2, none⟩ = some (b16 m1) := h5.box.c 2; have hr3 : w5.cell? ⟨w.heap.size, 3, none⟩ = some (b16 t1) := h5.box.c 3; have hr4 : w5.cell? ⟨w.heap.size, 4, none⟩ = some (.slice aw ws.length cw) := h5.box.c 4; clear h5 hg5)
          | (go_at_call 52; (with_reducible refine (H5.out.two_atG (UInt16.ofNat ws.length) _ (len_val hwl) (by simp [lenP])).mono ?_); rintro e w6 ⟨v6, rfl, h6, hg6⟩; have H6 := Lib.hid h6; have hp2 : w6.cell? ⟨w.heap.size, 2, none⟩ = some (b16 m1) := h6.box.c 2; have hp3 : w6.cell? ⟨w.heap.size, 3, none⟩ = some (b16 t1) := h6.box.c 3; have hp4 : w6.cell? ⟨w.heap.size, 4, none⟩ = some (.slice aw ws.length cw) := h6.box.c 4; clear h6 hg6))
      clear hk2 hk3 hk4 hq2 hq3 hq4 hr2 hr3 hr4 hp2 hp3
      go_wp2_with fail
      go_region_held3 (fun w' => w'.cell? ⟨w.heap.size, 4, none⟩ = some (.slice aw ws.length cw))
        (first
          | with_reducible exact hp4
          | with_reducible exact hq4
          | with_reducible exact hr4
          | go_keep)
        (first
          | (refine step_append_grew (by rfl) _ _ _ (by rfl) (w.heap.size + 1) 5 i0 (.int .u8 0) 1 Try.underlying27 HX.out.1 HX.out.2.1 HX.out.2.2.1 HX.out.2.2.2 rfl v6 _ _ (by rfl) ((H6.out.own.alloc _).drew) ⟨w6.heap.size, 0, none⟩ 1 1 [.int .u8 (IntKind.u8.wrap (IntKind.i64.wrap (2 * (ws.length : Int))))] (by rfl) (by rfl) (new_cells w6 #[.int .u8 (IntKind.u8.wrap (IntKind.i64.wrap (2 * (ws.length : Int))))] _) (by intro u hu; simp at hu; subst hu; rfl) (by omega) (by simp [lenP]; unfold maxLen; omega) (by simp [lenP]) (by have := H6.out.lt; simp; omega) ?_; intro v7 w7 hown7 hgrow7; have h7 := H6.out.more (Grew.alloc (grew_ahead hgrow7)) hown7 (byte_wrap (by have := hwl; omega)); have H7 := Lib.hid h7; have hq4 : w7.cell? ⟨w.heap.size, 4, none⟩ = some (.slice aw ws.length cw) := h7.box.c 4; clear h7 hown7 hgrow7)
          | (go_at_call 53; (with_reducible refine (H7.out.words HW.out (by have := HFIT.out; omega) (by simp [lenP]; omega)).mono ?_); rintro e w8 ⟨v8, rfl, h8⟩; have H8 := Lib.hid h8; have hr4 : w8.cell? ⟨w.heap.size, 4, none⟩ = some (.slice aw ws.length cw) := h8.box.c 4; clear h8))
      clear hp4 hq4 hr4
      go_wp2_with fail
      go_ret2
      exact H8.out.gives HBY.out
    exfalso
    unfold rightN at hrf
    have hno : rowN f1.toNat = none := by unfold rowN; rw [if_neg g1, if_neg g2, if_neg g3, if_neg g4, if_neg g5, if_neg g6, if_neg g15, if_neg g16, if_neg g23]
    simp only [hno] at hrf
    cases hrf
end Go.Proofs.Ytenfcpdoingdeaa.RefW
