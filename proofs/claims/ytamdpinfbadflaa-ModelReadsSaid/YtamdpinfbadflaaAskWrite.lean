/- The bytes of a request that has a row's fields. -/
import Derived.Test.YtamdpinfbadflaaAskList
open Go.RowKit
namespace Go.Proofs.Ytamdpinfbadflaa.AskW
open AskM Mem

/-- Two boxes were made at w, and nothing below them, nor they, has been written. -/
def Boxed (w : World) (c1 c2 : Array Value) (T1 T2 : TypeId) (w1 : World) : Prop := Below (w.heap.size + 2) ((w.alloc (.cells c1 T1)).alloc (.cells c2 T2)) w1
theorem Boxed.start {w w1 : World} {c1 c2 : Array Value} {T1 T2 : TypeId} {o : Obj} (h : Below (w.heap.size + 2) (((w.alloc (.cells c1 T1)).alloc (.cells c2 T2)).alloc o) w1) : Boxed w c1 c2 T1 T2 w1 :=
  ((Below.refl _ _).alloc (by simp) o).trans h
theorem Boxed.on {w w1 w2 : World} {c1 c2 : Array Value} {T1 T2 : TypeId} (h : Boxed w c1 c2 T1 T2 w1) (h2 : Below (w.heap.size + 2) w1 w2) : Boxed w c1 c2 T1 T2 w2 := Below.trans h h2
theorem Boxed.one {w w1 : World} {c1 c2 : Array Value} {T1 T2 : TypeId} (h : Boxed w c1 c2 T1 T2 w1) (o : Nat) : w1.cell? ⟨w.heap.size, o, none⟩ = c1[o]? := by
  rw [Below.cell h (p := ⟨w.heap.size, o, none⟩) (by simp), World.cell?_alloc_lt _ _ _ (by simp), World.cell?_alloc_new]
theorem Boxed.two {w w1 : World} {c1 c2 : Array Value} {T1 T2 : TypeId} (h : Boxed w c1 c2 T1 T2 w1) (o : Nat) : w1.cell? ⟨w.heap.size + 1, o, none⟩ = c2[o]? := by
  rw [Below.cell h (p := ⟨w.heap.size + 1, o, none⟩) (by simp)]
  have := World.cell?_alloc_new (w.alloc (.cells c1 T1)) c2 T2 o
  simp only [World.size_alloc] at this
  exact this
theorem Boxed.below {w w1 : World} {c1 c2 : Array Value} {T1 T2 : TypeId} (h : Boxed w c1 c2 T1 T2 w1) : Below w.heap.size w w1 := (below_two w _ _).trans (Below.mono h (by omega))
theorem Boxed.size {w w1 : World} {c1 c2 : Array Value} {T1 T2 : TypeId} (h : Boxed w c1 c2 T1 T2 w1) : w.heap.size + 2 ≤ w1.heap.size := by have := Below.size h; simp at this; omega
theorem own_below {w w' : World} {base : Nat} {T : TypeId} {v : Value} {n : Nat} {xs : List Value} (h : w.ownsRow base T 1 v n xs) (hb : Below w.heap.size w w') : w'.ownsRow base T 1 v n xs :=
  h.kept (row := none) ⟨hb.os, hb.tape, hb.output, hb.size, fun k hk _ => hb.block k hk⟩ (by cases hv : v.ownBlock <;> simp)
theorem AskAt.below {w w' : World} {a : Req} {aw ab : Option Addr} {cw cb : Nat} (h : AskAt w w.heap.size a aw cw ab cb) (hb : Below w.heap.size w w') : AskAt w' w'.heap.size a aw cw ab cb :=
  ⟨(h.words.below hb (Nat.le_refl _)).more hb.size, (h.bits.below hb (Nat.le_refl _)).more hb.size⟩

/-- Numbers just built, put behind bytes just built, or that the call owns. -/
theorem put_new (W : World) (k : Nat) (v : Value) (n : Nat) (bs : List UInt8) (l : List UInt16) (cs : Array Value) (base m : Nat) (hk : k = W.heap.size) (hcs : cs.toList = l.map b16) (hm : m = l.length) (hb : base ≤ W.heap.size)
    (ho : W.ownsRow base 5 1 v n (bs.map b8)) (hlen : n + 2 * m ≤ 100000) :
    Calls Try.prog 74 #[v, .slice (some ⟨k, 0, none⟩) m m] (W.alloc (.cells cs 29)) fun e w' => ∃ v', e = .returned v' ∧ w'.ownsRow base 5 1 v' (n + 2 * m) ((bs ++ putN l).map b8) ∧ Below base W w' := by
  subst hm
  refine (put_any v n bs _ _ _ l base _ (ho.alloc _) (Sl.new_at W cs _ _ l l.length hcs rfl (by omega) k hk) (fun x hx h => ?_) (by omega) (by simp; omega)).mono ?_
  · injection hx with hx
    have := (ho.lt _ h).2
    subst hx
    simp at this
    omega
  · rintro e w' ⟨v', rfl, h1, h2⟩
    have hl : (bs ++ putN l).length = n + 2 * l.length := by
      have := ho.1
      simp at this
      rw [List.length_append, length_putN]; omega
    rw [hl] at h1
    exact ⟨v', rfl, h1, Below.grown (Below.refl _ _) h2.alloc.grown hb (fun k hk => (ho.lt k hk).1)⟩

theorem own_new_at (w : World) (cs : Array Value) (e : TypeId) {base : Nat} (k : Nat) (hk : k = w.heap.size) (hb : base ≤ w.heap.size) {n : Nat} (hn : n = cs.size) (hm : n ≤ 1000000) : (w.alloc (.cells cs e)).ownsRow base e 1 (.slice (some ⟨k, 0, none⟩) n n) n cs.toList := by
  subst hk; exact own_new w cs e hb hn hm
theorem list_len {F : Row} {a : Req} (hF : RowOk F) (h : fitN F a = true) : (listN F a).length ≤ 250 := by
  have hff := fit_facts h
  have := hF.bits
  have := hF.words
  unfold listN
  split
  · simp [putN]
  · split
    · rw [length_packN]; omega
    · rw [length_putN]; omega
set_option maxHeartbeats 4000000 in
theorem write_any (F : Row) (hF : RowOk F) (a : Req) (aw : Option Addr) (cw : Nat) (ab : Option Addr) (cb : Nat) (w : World) (hA : AskAt w w.heap.size a aw cw ab cb) (hfit : fitN F a = true) :
    Calls Try.prog 61 #[rowV F, askV a aw cw ab cb] w (Fresh b8 (writeN F a) w) := by
  obtain ⟨i0, hi0, hz0, hz1, hz2⟩ := info_parts info8
  have HX := Lib.hid (And.intro hi0 (And.intro hz0 (And.intro hz1 hz2)))
  clear hi0 hz0 hz1 hz2
  obtain ⟨f1, f2, f3, f4, f5, f6, -⟩ := fit_facts hfit
  have hlen := list_len hF hfit
  obtain ⟨m1, m2, m3, m4, m5, m6⟩ := hF
  have hl := fun w => listed_any F w
  have hli := fun w1 hA => list_any F ⟨m1, m2, m3, m4, m5, m6⟩ a aw cw ab cb w1 hA (by omega) (by omega) (fun h => by rw [h] at f3; omega)
  have hA1 := fun w1 hb => hA.below (w' := w1) hb
  clear hA hfit
  generalize hLN : listN F a = LN at hli hlen
  have HLN := Lib.hid hLN
  clear hLN
  obtain ⟨fm, fb, fw, ft⟩ := F
  obtain ⟨fn, at_, many, to_, words, bits⟩ := a
  simp only at *
  by_cases hfm : 0 < fm
  · have hfm' : decide (0 < fm) = true := by simp; omega
    cases ft
    · by_cases hL : listed ⟨fm, fb, fw, false⟩ = true
      · have HL := Lib.hid hL
        clear hL m4 m5 m6 f3
        have HFin : Hid (writeN ⟨fm, fb, fw, false⟩ ⟨fn, at_, many, to_, words, bits⟩ = [fn] ++ putN [at_] ++ putN [many] ++ [UInt8.ofNat LN.length] ++ LN) := Lib.hid (by unfold writeN; simp [hfm, HL.out, HLN.out])
        clear hfm HLN
        go_enter Try.func61, Try.ntmps61
        go_wp2_with fail
        refine (put_new _ _ _ 1 [fn] [at_] _ (w.heap.size + 2) 1 (by simp) rfl rfl (by simp) (own_new_at _ _ _ _ (by simp) (by simp) rfl (by omega)) (by omega)).mono ?_
        rintro e w1 ⟨v1, rfl, ho, hb⟩
        have B := Boxed.start hb
        have C1 := B.one
        have C2 := B.two
        have S1 := B.size
        have HO1 := Lib.hid ho
        have HB1 := Lib.hid B
        clear ho hb B
        go_wp2_with fail
        refine (put_new _ _ _ _ _ [many] _ (w.heap.size + 2) 1 rfl rfl rfl S1 HO1.out (by omega)).mono ?_
        rintro e w2 ⟨v2, rfl, ho, hb⟩
        have B := HB1.out.on hb
        clear C1 C2
        have C1 := B.one
        have C2 := B.two
        have S2 := B.size
        have HO2 := Lib.hid ho
        have HB2 := Lib.hid B
        clear ho hb B
        go_wp2_with fail
        refine (hli _ (hA1 _ HB2.out.below)).mono ?_
        rintro e w3 ⟨al, cl, rfl, hs, hb, hx⟩
        have hne : ∀ x : Addr, al = some x → v2.ownBlock ≠ some x.block := fun x h1 h2 => by have := hx x h1; have := (HO2.out.lt _ h2).2; omega
        have ho := own_below HO2.out hb
        have B := HB2.out.on (hb.mono S2)
        have HS := Lib.hid hs
        have HN := Lib.hid hne
        clear C1 C2 hs hx hne
        have C1 := B.one
        have C2 := B.two
        have S3 := B.size
        have HO3 := Lib.hid ho
        have HB3 := Lib.hid B
        clear ho hb B
        go_wp2_with fail
        refine (hl _).mono ?_
        rintro e w' ⟨rfl, rfl⟩
        rw [HL.out]
        clear C1 C2
        have HS1 := Lib.hid (HS.out.alloc (Nat.le_refl _) (.cells #[.int .i64 (fm : Int), .int .i64 (fb : Int), .int .i64 (fw : Int), .bool false] 85))
        have HO := Lib.hid (HO3.out.alloc (.cells #[.int .i64 (fm : Int), .int .i64 (fb : Int), .int .i64 (fw : Int), .bool false] 85))
        have HBe := Lib.hid (HB3.out.below.alloc (by omega) (.cells #[.int .i64 (fm : Int), .int .i64 (fb : Int), .int .i64 (fw : Int), .bool false] 85))
        go_wp2_with (refine wpList_append_vals rfl (.tmp 38) (.tmp 42) 51 rfl (w.heap.size + 2) 5 i0 (.int .u8 0) 1 Try.underlying51 HX.out.1 HX.out.2.1 HX.out.2.2.1 HX.out.2.2.2 rfl v2 _ _ rfl (HO.out.alloc _) ⟨w3.heap.size + 1, 0, none⟩ 1 1 [.int .u8 (LN.length : Int)] rfl rfl ?c0 ?c1 ?c2 ?c3 ?c4 ?_)
        case c0 => have := new_cells (w3.alloc (.cells #[.int .i64 (fm : Int), .int .i64 (fb : Int), .int .i64 (fw : Int), .bool false] 85)) #[.int .u8 (LN.length : Int)] 5; simp only [World.size_alloc] at this; exact this
        case c1 => intro u hu; simp at hu; subst hu; rfl
        case c2 => unfold maxLen; omega
        case c3 => omega
        case c4 => simp; omega
        intro v w4 ho hg
        have hb2 : Below w.heap.size w w4 := Grew.below HBe.out hg.alloc (by simp; omega) (fun k hk => by have := (HO.out.lt k hk).1; omega)
        have HS2 := Lib.hid ((HS1.out.alloc (by simp) _).grew hg HN.out)
        rw [show Value.int .u8 (LN.length : Int) = b8 (UInt8.ofNat LN.length) by simp only [b8, ofNat_toNat8 (show LN.length < 256 by omega)]] at ho
        have HO6 := Lib.hid ho
        have HB6 := Lib.hid hb2
        have hz := hb2.size
        clear ho hg hb2
        have hz2 : w.heap.size + 2 ≤ w4.heap.size := by have := (HO6.out.2.resolve_left (by rintro ⟨-, h⟩; omega)); obtain ⟨g, cap, cur, -, h1, h2, -⟩ := this; have := (Array.getElem?_eq_some_iff.1 h2).1; omega
        go_wp2_with (refine wpList_append_list (f := b8) (fun _ => rfl) rfl (.tmp 44) (.tmp 45) 51 rfl (w.heap.size + 2) 5 i0 (.int .u8 0) 1 Try.underlying51 HX.out.1 HX.out.2.1 HX.out.2.2.1 HX.out.2.2.2 rfl v _ _ rfl HO6.out al LN.length cl rfl HS2.out ?d1 ?d2 ?d3 ?_)
        case d1 => unfold maxLen; omega
        case d2 => omega
        case d3 => exact hz2
        intro vv ww ho hg
        have hb : Below w.heap.size w ww := Grew.below HB6.out hg (by have := HB6.out.size; omega) (fun k hk => by have := (HO6.out.lt k hk).1; omega)
        have HO9 := Lib.hid ho
        clear ho hg
        go_wp2
        go_ret
        obtain ⟨n, xs, hxs, h⟩ : ∃ n xs, xs = (writeN ⟨fm, fb, fw, false⟩ ⟨fn, at_, many, to_, words, bits⟩).map b8 ∧ ww.ownsRow (w.heap.size + 2) 5 1 vv n xs := by
          refine ⟨_, _, ?_, HO9.out⟩
          rw [HFin.out]
          simp
        subst hxs
        exact Fresh.of_own h (by omega) hb
      · have HL := Lib.hid (Bool.eq_false_iff.2 hL)
        clear hL m4 m5 m6 f3
        have HFin : Hid (writeN ⟨fm, fb, fw, false⟩ ⟨fn, at_, many, to_, words, bits⟩ = [fn] ++ putN [at_] ++ putN [many] ++ LN) := Lib.hid (by unfold writeN; simp [hfm, HL.out, HLN.out])
        clear hfm HLN
        go_enter Try.func61, Try.ntmps61
        go_wp2_with fail
        refine (put_new _ _ _ 1 [fn] [at_] _ (w.heap.size + 2) 1 (by simp) rfl rfl (by simp) (own_new_at _ _ _ _ (by simp) (by simp) rfl (by omega)) (by omega)).mono ?_
        rintro e w1 ⟨v1, rfl, ho, hb⟩
        have B := Boxed.start hb
        have C1 := B.one
        have C2 := B.two
        have S1 := B.size
        have HO1 := Lib.hid ho
        have HB1 := Lib.hid B
        clear ho hb B
        go_wp2_with fail
        refine (put_new _ _ _ _ _ [many] _ (w.heap.size + 2) 1 rfl rfl rfl S1 HO1.out (by omega)).mono ?_
        rintro e w2 ⟨v2, rfl, ho, hb⟩
        have B := HB1.out.on hb
        clear C1 C2
        have C1 := B.one
        have C2 := B.two
        have S2 := B.size
        have HO2 := Lib.hid ho
        have HB2 := Lib.hid B
        clear ho hb B
        go_wp2_with fail
        refine (hli _ (hA1 _ HB2.out.below)).mono ?_
        rintro e w3 ⟨al, cl, rfl, hs, hb, hx⟩
        have hne : ∀ x : Addr, al = some x → v2.ownBlock ≠ some x.block := fun x h1 h2 => by have := hx x h1; have := (HO2.out.lt _ h2).2; omega
        have ho := own_below HO2.out hb
        have B := HB2.out.on (hb.mono S2)
        have HS := Lib.hid hs
        have HN := Lib.hid hne
        clear C1 C2 hs hx hne
        have C1 := B.one
        have C2 := B.two
        have S3 := B.size
        have HO3 := Lib.hid ho
        have HB3 := Lib.hid B
        clear ho hb B
        go_wp2_with fail
        refine (hl _).mono ?_
        rintro e w' ⟨rfl, rfl⟩
        rw [HL.out]
        clear C1 C2
        have HS1 := Lib.hid (HS.out.alloc (Nat.le_refl _) (.cells #[.int .i64 (fm : Int), .int .i64 (fb : Int), .int .i64 (fw : Int), .bool false] 85))
        have HO := Lib.hid (HO3.out.alloc (.cells #[.int .i64 (fm : Int), .int .i64 (fb : Int), .int .i64 (fw : Int), .bool false] 85))
        have HBe := Lib.hid (HB3.out.below.alloc (by omega) (.cells #[.int .i64 (fm : Int), .int .i64 (fb : Int), .int .i64 (fw : Int), .bool false] 85))
        go_wp2_with (refine wpList_append_list (f := b8) (fun _ => rfl) rfl (.tmp 44) (.tmp 45) 51 rfl (w.heap.size + 2) 5 i0 (.int .u8 0) 1 Try.underlying51 HX.out.1 HX.out.2.1 HX.out.2.2.1 HX.out.2.2.2 rfl v2 _ _ rfl HO.out al LN.length cl rfl HS1.out ?d1 ?d2 ?d3 ?_)
        case d1 => unfold maxLen; omega
        case d2 => omega
        case d3 => simp; omega
        intro vv ww ho hg
        have hb : Below w.heap.size w ww := Grew.below HBe.out hg (by have := HBe.out.size; omega) (fun k hk => by have := (HO.out.lt k hk).1; omega)
        have HO9 := Lib.hid ho
        clear ho hg
        go_wp2
        go_ret
        obtain ⟨n, xs, hxs, h⟩ : ∃ n xs, xs = (writeN ⟨fm, fb, fw, false⟩ ⟨fn, at_, many, to_, words, bits⟩).map b8 ∧ ww.ownsRow (w.heap.size + 2) 5 1 vv n xs := by
          refine ⟨_, _, ?_, HO9.out⟩
          rw [HFin.out]
          simp
        subst hxs
        exact Fresh.of_own h (by omega) hb
    · have HL := Lib.hid (m5 rfl)
      clear m4 m5 m6 f3
      have HFin : Hid (writeN ⟨fm, fb, fw, true⟩ ⟨fn, at_, many, to_, words, bits⟩ = [fn] ++ putN [at_] ++ putN [many] ++ putN [to_, UInt16.ofNat words.length] ++ [UInt8.ofNat LN.length] ++ LN) := Lib.hid (by unfold writeN; simp [hfm, HL.out, HLN.out])
      clear hfm HLN
      go_enter Try.func61, Try.ntmps61
      go_wp2_with fail
      refine (put_new _ _ _ 1 [fn] [at_] _ (w.heap.size + 2) 1 (by simp) rfl rfl (by simp) (own_new_at _ _ _ _ (by simp) (by simp) rfl (by omega)) (by omega)).mono ?_
      rintro e w1 ⟨v1, rfl, ho, hb⟩
      have B := Boxed.start hb
      have C1 := B.one
      have C2 := B.two
      have S1 := B.size
      have HO1 := Lib.hid ho
      have HB1 := Lib.hid B
      clear ho hb B
      go_wp2_with fail
      refine (put_new _ _ _ _ _ [many] _ (w.heap.size + 2) 1 rfl rfl rfl S1 HO1.out (by omega)).mono ?_
      rintro e w2 ⟨v2, rfl, ho, hb⟩
      have B := HB1.out.on hb
      clear C1 C2
      have C1 := B.one
      have C2 := B.two
      have S2 := B.size
      have HO2 := Lib.hid ho
      have HB2 := Lib.hid B
      clear ho hb B
      go_wp2_with fail
      refine (put_new _ _ _ _ _ [to_, UInt16.ofNat words.length] _ (w.heap.size + 2) 2 rfl (by simp only [List.map_cons, List.map_nil, b16, ofNat_toNat16 (show words.length < 65536 by omega)]) rfl S2 HO2.out (by omega)).mono ?_
      rintro e w3 ⟨v3, rfl, ho, hb⟩
      have B := HB2.out.on hb
      clear C1 C2
      have C1 := B.one
      have C2 := B.two
      have S3 := B.size
      have HO3 := Lib.hid ho
      have HB3 := Lib.hid B
      clear ho hb B
      go_wp2_with fail
      refine (hli _ (hA1 _ HB3.out.below)).mono ?_
      rintro e w4 ⟨al, cl, rfl, hs, hb, hx⟩
      have hne : ∀ x : Addr, al = some x → v3.ownBlock ≠ some x.block := fun x h1 h2 => by have := hx x h1; have := (HO3.out.lt _ h2).2; omega
      have ho := own_below HO3.out hb
      have B := HB3.out.on (hb.mono S3)
      have HS := Lib.hid hs
      have HN := Lib.hid hne
      clear C1 C2 hs hx hne
      have C1 := B.one
      have C2 := B.two
      have S4 := B.size
      have HO4 := Lib.hid ho
      have HB4 := Lib.hid B
      clear ho hb B
      go_wp2_with fail
      refine (hl _).mono ?_
      rintro e w' ⟨rfl, rfl⟩
      rw [HL.out]
      clear C1 C2
      have HS1 := Lib.hid (HS.out.alloc (Nat.le_refl _) (.cells #[.int .i64 (fm : Int), .int .i64 (fb : Int), .int .i64 (fw : Int), .bool true] 85))
      have HO := Lib.hid (HO4.out.alloc (.cells #[.int .i64 (fm : Int), .int .i64 (fb : Int), .int .i64 (fw : Int), .bool true] 85))
      have HBe := Lib.hid (HB4.out.below.alloc (by omega) (.cells #[.int .i64 (fm : Int), .int .i64 (fb : Int), .int .i64 (fw : Int), .bool true] 85))
      go_wp2_with (refine wpList_append_vals rfl (.tmp 38) (.tmp 42) 51 rfl (w.heap.size + 2) 5 i0 (.int .u8 0) 1 Try.underlying51 HX.out.1 HX.out.2.1 HX.out.2.2.1 HX.out.2.2.2 rfl v3 _ _ rfl (HO.out.alloc _) ⟨w4.heap.size + 1, 0, none⟩ 1 1 [.int .u8 (LN.length : Int)] rfl rfl ?c0 ?c1 ?c2 ?c3 ?c4 ?_)
      case c0 => have := new_cells (w4.alloc (.cells #[.int .i64 (fm : Int), .int .i64 (fb : Int), .int .i64 (fw : Int), .bool true] 85)) #[.int .u8 (LN.length : Int)] 5; simp only [World.size_alloc] at this; exact this
      case c1 => intro u hu; simp at hu; subst hu; rfl
      case c2 => unfold maxLen; omega
      case c3 => omega
      case c4 => simp; omega
      intro v w5 ho hg
      have hb2 : Below w.heap.size w w5 := Grew.below HBe.out hg.alloc (by simp; omega) (fun k hk => by have := (HO.out.lt k hk).1; omega)
      have HS2 := Lib.hid ((HS1.out.alloc (by simp) _).grew hg HN.out)
      rw [show Value.int .u8 (LN.length : Int) = b8 (UInt8.ofNat LN.length) by simp only [b8, ofNat_toNat8 (show LN.length < 256 by omega)]] at ho
      have HO6 := Lib.hid ho
      have HB6 := Lib.hid hb2
      have hz := hb2.size
      clear ho hg hb2
      have hz2 : w.heap.size + 2 ≤ w5.heap.size := by have := (HO6.out.2.resolve_left (by rintro ⟨-, h⟩; omega)); obtain ⟨g, cap, cur, -, h1, h2, -⟩ := this; have := (Array.getElem?_eq_some_iff.1 h2).1; omega
      go_wp2_with (refine wpList_append_list (f := b8) (fun _ => rfl) rfl (.tmp 44) (.tmp 45) 51 rfl (w.heap.size + 2) 5 i0 (.int .u8 0) 1 Try.underlying51 HX.out.1 HX.out.2.1 HX.out.2.2.1 HX.out.2.2.2 rfl v _ _ rfl HO6.out al LN.length cl rfl HS2.out ?d1 ?d2 ?d3 ?_)
      case d1 => unfold maxLen; omega
      case d2 => omega
      case d3 => exact hz2
      intro vv ww ho hg
      have hb : Below w.heap.size w ww := Grew.below HB6.out hg (by have := HB6.out.size; omega) (fun k hk => by have := (HO6.out.lt k hk).1; omega)
      have HO9 := Lib.hid ho
      clear ho hg
      go_wp2
      go_ret
      obtain ⟨n, xs, hxs, h⟩ : ∃ n xs, xs = (writeN ⟨fm, fb, fw, true⟩ ⟨fn, at_, many, to_, words, bits⟩).map b8 ∧ ww.ownsRow (w.heap.size + 2) 5 1 vv n xs := by
        refine ⟨_, _, ?_, HO9.out⟩
        rw [HFin.out]
        simp
      subst hxs
      exact Fresh.of_own h (by omega) hb
  · have hfm' : decide (0 < fm) = false := by simp; omega
    have hL : listed ⟨fm, fb, fw, ft⟩ = false := by
      cases h : listed ⟨fm, fb, fw, ft⟩
      · rfl
      · exact absurd (m6 h) hfm
    cases ft
    · have HL := Lib.hid hL
      clear hL m4 m5 m6 f3
      have HFin : Hid (writeN ⟨fm, fb, fw, false⟩ ⟨fn, at_, many, to_, words, bits⟩ = [fn] ++ putN [at_] ++ LN) := Lib.hid (by unfold writeN; simp [hfm, HL.out, HLN.out])
      clear hfm HLN
      go_enter Try.func61, Try.ntmps61
      go_wp2_with fail
      refine (put_new _ _ _ 1 [fn] [at_] _ (w.heap.size + 2) 1 (by simp) rfl rfl (by simp) (own_new_at _ _ _ _ (by simp) (by simp) rfl (by omega)) (by omega)).mono ?_
      rintro e w1 ⟨v1, rfl, ho, hb⟩
      have B := Boxed.start hb
      have C1 := B.one
      have C2 := B.two
      have S1 := B.size
      have HO1 := Lib.hid ho
      have HB1 := Lib.hid B
      clear ho hb B
      go_wp2_with fail
      refine (hli _ (hA1 _ HB1.out.below)).mono ?_
      rintro e w2 ⟨al, cl, rfl, hs, hb, hx⟩
      have hne : ∀ x : Addr, al = some x → v1.ownBlock ≠ some x.block := fun x h1 h2 => by have := hx x h1; have := (HO1.out.lt _ h2).2; omega
      have ho := own_below HO1.out hb
      have B := HB1.out.on (hb.mono S1)
      have HS := Lib.hid hs
      have HN := Lib.hid hne
      clear C1 C2 hs hx hne
      have C1 := B.one
      have C2 := B.two
      have S2 := B.size
      have HO2 := Lib.hid ho
      have HB2 := Lib.hid B
      clear ho hb B
      go_wp2_with fail
      refine (hl _).mono ?_
      rintro e w' ⟨rfl, rfl⟩
      rw [HL.out]
      clear C1 C2
      have HS1 := Lib.hid (HS.out.alloc (Nat.le_refl _) (.cells #[.int .i64 (fm : Int), .int .i64 (fb : Int), .int .i64 (fw : Int), .bool false] 85))
      have HO := Lib.hid (HO2.out.alloc (.cells #[.int .i64 (fm : Int), .int .i64 (fb : Int), .int .i64 (fw : Int), .bool false] 85))
      have HBe := Lib.hid (HB2.out.below.alloc (by omega) (.cells #[.int .i64 (fm : Int), .int .i64 (fb : Int), .int .i64 (fw : Int), .bool false] 85))
      go_wp2_with (refine wpList_append_list (f := b8) (fun _ => rfl) rfl (.tmp 44) (.tmp 45) 51 rfl (w.heap.size + 2) 5 i0 (.int .u8 0) 1 Try.underlying51 HX.out.1 HX.out.2.1 HX.out.2.2.1 HX.out.2.2.2 rfl v1 _ _ rfl HO.out al LN.length cl rfl HS1.out ?d1 ?d2 ?d3 ?_)
      case d1 => unfold maxLen; omega
      case d2 => omega
      case d3 => simp; omega
      intro vv ww ho hg
      have hb : Below w.heap.size w ww := Grew.below HBe.out hg (by have := HBe.out.size; omega) (fun k hk => by have := (HO.out.lt k hk).1; omega)
      have HO9 := Lib.hid ho
      clear ho hg
      go_wp2
      go_ret
      obtain ⟨n, xs, hxs, h⟩ : ∃ n xs, xs = (writeN ⟨fm, fb, fw, false⟩ ⟨fn, at_, many, to_, words, bits⟩).map b8 ∧ ww.ownsRow (w.heap.size + 2) 5 1 vv n xs := by
        refine ⟨_, _, ?_, HO9.out⟩
        rw [HFin.out]
        simp
      subst hxs
      exact Fresh.of_own h (by omega) hb
    · rw [m5 rfl] at hL; cases hL
end Go.Proofs.Ytamdpinfbadflaa.AskW
