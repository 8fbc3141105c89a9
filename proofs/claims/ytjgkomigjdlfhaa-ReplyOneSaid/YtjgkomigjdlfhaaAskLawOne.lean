/- The law AskOne, walked. -/
import Derived.Test.YtjgkomigjdlfhaaAskAwake
import Derived.Test.YtjgkomigjdlfhaaStill
open Go.RowKit
namespace Go.Proofs.Ytjgkomigjdlfhaa.AskW
open AskM Mem

theorem few_true {n m : Nat} (h1 : n ≤ 200) (h2 : m ≤ 2100) : (decide (n ≤ 200) && decide (m ≤ 2100)) = true := by simp [h1, h2]
theorem few_false {n m : Nat} (h : ¬ (n ≤ 200 ∧ m ≤ 2100)) : (decide (n ≤ 200) && decide (m ≤ 2100)) = false := by
  rw [Bool.and_eq_false_iff]; simp; omega
/-- Calls whose answers are known, in whatever world behind W. -/
theorem awake_on {W0 : World} (W : World) (h : Below W0.heap.size W0 W) : Calls Try.prog 15 #[] W fun e W' => e = .returned (.bool true) ∧ Below W0.heap.size W0 W' :=
  (awake_any W).mono fun _ _ ⟨he, hb⟩ => ⟨he, h.trans (hb.mono h.size)⟩
theorem lowsame_on {W0 : World} {a b : Option Addr} {n c k d : Nat} {l m : List UInt8} (hl : Sl b8 W0 W0.heap.size a n c l) (hm : Sl b8 W0 W0.heap.size b k d m) {x : Bool} (hx : decide (l = m) = x) (W : World) (h : Below W0.heap.size W0 W) :
    Calls Try.prog 22 #[.slice a n c, .slice b k d] W fun e W' => e = .returned (.bool x) ∧ Below W0.heap.size W0 W' :=
  (LowSame_any _ _ _ _ _ _ _ _ _ _ _ (hl.below h (Nat.le_refl _)) (hm.below h (Nat.le_refl _))).mono fun _ _ hh => ⟨by rw [hh.1, hx], h.trans (hh.below.mono h.size)⟩
theorem same_on {W0 : World} {a o : Req} {aw ab ow ob : Option Addr} {cw cb dw db : Nat} (hA : AskAt W0 W0.heap.size a aw cw ab cb) (hO : AskAt W0 W0.heap.size o ow dw ob db) {x : Bool} (hx : decide (a = o) = x) (W : World) (h : Below W0.heap.size W0 W) :
    Calls Try.prog 20 #[askV a aw cw ab cb, askV o ow dw ob db] W fun e W' => e = .returned (.bool x) ∧ Below W0.heap.size W0 W' :=
  (Same_any a o _ _ _ _ _ _ _ _ W (hA.below h) (hO.below h)).mono fun _ _ ⟨he, hb⟩ => ⟨by rw [he, hx], h.trans (hb.mono h.size)⟩

/-- Two rows of bytes compared: not even a draw. -/
theorem lowsame_still {a b : Option Addr} {n c k d : Nat} {l m : List UInt8} {B B2 : Nat} {W : World} (hl : Sl b8 W B a n c l) (hm : Sl b8 W B2 b k d m) {x : Bool} (hx : decide (l = m) = x) :
    Calls Try.prog 22 #[.slice a n c, .slice b k d] W fun e W' => e = .returned (.bool x) ∧ W' = W := by
  have h1 := hl.text (P := Try.prog) Try.underlying27 Try.underlying5 Try.underlying9
  have h2 := hm.text (P := Try.prog) Try.underlying27 Try.underlying5 Try.underlying9
  have H := Lib.hid hx
  clear hx
  go_enter Try.func22, Try.ntmps22
  go_wp2_with fail
  go_ret
  exact ⟨ret_bool ((str_eq l m).trans H.out), rfl⟩
theorem enters_low (args : Array Value) (w : World) : (callFunc 22 args).run Try.prog w = .ok (.enter 22 args) w := by
  have h := Try.func22
  unfold callFunc
  rw [Sem.run_bind]
  simp only [run_program, Result.andThen_ok, h]
  have e1 : (Try.f22.name == "runtime.NumGoroutine") = false := by kernel_rfl
  have e2 : Try.f22.body.isNone = false := by kernel_rfl
  rw [e1, e2]
  rfl
theorem Boxed.h1 {w w1 : World} {c1 c2 : Array Value} {T1 T2 : TypeId} (h : Boxed w c1 c2 T1 T2 w1) : w1.heap[w.heap.size]? = some (.cells c1 T1 (0, 0)) := by
  rw [Below.block h _ (by omega), Below.heap_alloc _ _ _ (by simp)]
  exact heap_alloc_new w _
theorem Boxed.h2 {w w1 : World} {c1 c2 : Array Value} {T1 T2 : TypeId} (h : Boxed w c1 c2 T1 T2 w1) : w1.heap[w.heap.size + 1]? = some (.cells c2 T2 (0, 0)) := by
  rw [Below.block h _ (by omega)]
  exact at_one w _ _
theorem Gives.all {o : Option (List UInt8)} {w w' : World} {e : Ending} (h : Gives o w e w') :
    ∃ x n c er, e = .returned (.tuple #[.slice x n c, .int .i64 er]) ∧ Sl b8 w' w'.heap.size x n c (o.getD []) ∧ Hid (er = if o.isSome = true then 0 else 12) ∧ Below w.heap.size w w' := by
  cases o with
  | none => exact ⟨none, 0, 0, 12, h.1, Sl.none_, rfl, h.2⟩
  | some b =>
    obtain ⟨a, c, he, hs, hb, _⟩ := h
    exact ⟨a, _, c, 0, he, hs, rfl, hb⟩
set_option maxRecDepth 100000 in
set_option maxHeartbeats 4000000 in
theorem AskOne_walk (b : Option Addr) (n c : Nat) (l : List UInt8) (a : Req) (aw : Option Addr) (cw : Nat) (ab : Option Addr) (cb : Nat) (o : Req) (ow : Option Addr) (dw : Nat) (ob : Option Addr) (db : Nat) (w : World)
    (hS : Sl b8 w w.heap.size b n c l) (hA : AskAt w w.heap.size a aw cw ab cb) (hO : AskAt w w.heap.size o ow dw ob db) :
    Calls Try.prog 5 #[.slice b n c, askV a aw cw ab cb, askV o ow dw ob db] w (Says (.bool true) w) := by
  have hn := len_le hS
  have l1 := len_le hA.words
  have l2 := len_le hA.bits
  have l3 := len_le hO.words
  have l4 := len_le hO.bits
  have HBoth : Hid (bytesN a = none ∨ bytesN o = none ∨ ∃ la lo, bytesN a = some la ∧ bytesN o = some lo ∧ decide (la = lo) = decide (a = o)) := by
    unfold Hid
    cases ha : bytesN a with
    | none => exact .inl rfl
    | some la =>
      cases ho : bytesN o with
      | none => exact .inr (.inl rfl)
      | some lo =>
        refine .inr (.inr ⟨la, lo, rfl, rfl, ?_⟩)
        by_cases h : a = o
        · subst h
          rw [ha] at ho
          injection ho with ho
          simp [ho]
        · rw [decide_eq_false h, decide_eq_false]
          intro e
          subst e
          exact h (bytes_inj ha ho)
  have HP : Hid (∀ q, parseN l = some q → bytesN q = some l ∧ rightN q = true) := Lib.hid (fun q h => ⟨parse_iff.1 h, rightN_iff.2 ⟨l, parse_iff.1 h⟩⟩)
  have HPL : Hid (∀ q, parseN l = some q → q.words.length ≤ 1000000 ∧ q.bits.length ≤ 1000000) := Lib.hid (fun q h => by
    obtain ⟨F, hr, hf, _⟩ := bytesN_some.1 (parse_iff.1 h)
    have := fit_facts hf
    have := rowOk hr
    have h1 := this.bits
    have h2 := this.words
    omega)
  have HS := Lib.hid hS
  have HA := Lib.hid hA
  have HO := Lib.hid hO
  clear hS hA hO
  obtain ⟨f1, a1, m1, t1, ws, bs⟩ := a
  obtain ⟨f2, a2, m2, t2, vs, ds⟩ := o
  simp only at l1 l2 l3 l4
  by_cases h1 : ws.length ≤ 200 ∧ bs.length ≤ 2100
  case neg =>
    have hx := Lib.hid (few_false h1)
    clear h1
    go_enter Try.func5, Try.ntmps5
    go_wp2_with fail
    refine (Few_any _ _ _ _ _ _ _ l1 l2).mono ?_
    rintro e w1 ⟨rfl, rfl⟩
    rw [hx.out]
    go_wp2_with fail
    refine (awake_any _).mono ?_
    rintro e w1 ⟨rfl, hb⟩
    go_wp2_with fail
    go_ret
    exact Says.mk ((below_two w _ _).trans (hb.mono (by simp; omega)))
  have hx1 := Lib.hid (few_true h1.1 h1.2)
  by_cases h2 : vs.length ≤ 200 ∧ ds.length ≤ 2100
  case neg =>
    have hx := Lib.hid (few_false h2)
    clear h1 h2
    go_enter Try.func5, Try.ntmps5
    go_wp2_with fail
    refine (Few_any _ _ _ _ _ _ _ l1 l2).mono ?_
    rintro e w1 ⟨rfl, rfl⟩
    rw [hx1.out]
    go_wp2_with fail
    refine (Few_any _ _ _ _ _ _ _ l3 l4).mono ?_
    rintro e w1 ⟨rfl, rfl⟩
    rw [hx.out]
    go_wp2_with fail
    refine (awake_any _).mono ?_
    rintro e w1 ⟨rfl, hb⟩
    go_wp2_with fail
    go_ret
    exact Says.mk ((below_two w _ _).trans (hb.mono (by simp; omega)))
  have hx2 := Lib.hid (few_true h2.1 h2.2)
  by_cases h3 : 300 < n
  · have h3' : decide (300 < (n : Int)) = true := by simp; omega
    clear h1 h2
    go_enter Try.func5, Try.ntmps5
    go_wp2_with fail
    refine (Few_any _ _ _ _ _ _ _ l1 l2).mono ?_
    rintro e w1 ⟨rfl, rfl⟩
    rw [hx1.out]
    go_wp2_with fail
    refine (Few_any _ _ _ _ _ _ _ l3 l4).mono ?_
    rintro e w1 ⟨rfl, rfl⟩
    rw [hx2.out]
    go_wp2_with fail
    refine (awake_any _).mono ?_
    rintro e w1 ⟨rfl, hb⟩
    go_wp2_with fail
    go_ret
    exact Says.mk ((below_two w _ _).trans (hb.mono (by simp; omega)))
  have h3' : decide (300 < (n : Int)) = false := by simp; omega
  have HBA := fun w1 hb => Bytes_any ⟨f1, a1, m1, t1, ws, bs⟩ aw cw ab cb w1 (HA.out.below hb) (by show ws.length ≤ 1000000; omega) (by show bs.length ≤ 1000000; omega)
  have HBO := fun w1 hb => Bytes_any ⟨f2, a2, m2, t2, vs, ds⟩ ow dw ob db w1 (HO.out.below hb) (by show vs.length ≤ 1000000; omega) (by show ds.length ≤ 1000000; omega)
  have HX := Lib.hid (And.intro HBA HBO)
  clear HBA HBO h1 h2
  go_enter Try.func5, Try.ntmps5
  go_wp2_with fail
  refine (Few_any _ _ _ _ _ _ _ l1 l2).mono ?_
  rintro e w1 ⟨rfl, rfl⟩
  rw [hx1.out]
  go_wp2_with fail
  refine (Few_any _ _ _ _ _ _ _ l3 l4).mono ?_
  rintro e w1 ⟨rfl, rfl⟩
  rw [hx2.out]
  go_wp2_with fail
  refine (Parse_any _ _ _ _ _ ((HS.out.below (below_two w _ _) (Nat.le_refl _)).more (by simp; omega))).mono ?_
  rintro e w1 ⟨pw, dpw, pb, dpb, rfl, hQ, hb, -⟩
  have HBx : Hid (Boxed w #[b8 f1, b16 a1, b16 m1, b16 t1, .slice aw ws.length cw, .slice ab bs.length cb] #[b8 f2, b16 a2, b16 m2, b16 t2, .slice ow vs.length dw, .slice ob ds.length db] 26 26 w1) := hb.mono (by simp)
  have HQ := Lib.hid hQ
  clear hb hQ
  generalize parseN l = po at *
  have HA2 : Hid (∀ W, Below w.heap.size w W → Calls Try.prog 16 #[askV ⟨f1, a1, m1, t1, ws, bs⟩ aw cw ab cb] W (Gives (bytesN ⟨f1, a1, m1, t1, ws, bs⟩) W)) := HX.out.1
  have HO2 : Hid (∀ W, Below w.heap.size w W → Calls Try.prog 16 #[askV ⟨f2, a2, m2, t2, vs, ds⟩ ow dw ob db] W (Gives (bytesN ⟨f2, a2, m2, t2, vs, ds⟩) W)) := HX.out.2
  clear HX
  generalize bytesN ⟨f1, a1, m1, t1, ws, bs⟩ = pa at *
  generalize bytesN ⟨f2, a2, m2, t2, vs, ds⟩ = pb2 at *
  have HB2 : Hid (∀ x : Obj, Boxed w #[b8 f1, b16 a1, b16 m1, b16 t1, .slice aw ws.length cw, .slice ab bs.length cb] #[b8 f2, b16 a2, b16 m2, b16 t2, .slice ow vs.length dw, .slice ob ds.length db] 26 26 (w1.alloc x)) := Lib.hid (fun x => HBx.out.on ((Below.refl _ _).alloc HBx.out.size x))
  generalize hq : po.getD (bare 0) = q at *
  have HQE := Lib.hid hq
  clear hq
  obtain ⟨g1, g2, g3, g4, qs, rs⟩ := q
  generalize hev : (if po.isSome = true then (0 : Int) else 12) = ev at *
  have HEV := Lib.hid hev
  clear hev
  go_upto_if 41 with fail
  go_cut [9] (fun _ wx => Hid (Boxed w #[b8 f1, b16 a1, b16 m1, b16 t1, .slice aw ws.length cw, .slice ab bs.length cb] #[b8 f2, b16 a2, b16 m2, b16 t2, .slice ow vs.length dw, .slice ob ds.length db] 26 26 wx))
  case first =>
    cases po with
    | none =>
      have hz : (ev == 0) = false := by rw [← HEV.out]; rfl
      go_wp2_with fail
      go_meet
      exact HB2.out _
    | some q =>
      have hz : (ev == 0) = true := by rw [← HEV.out]; rfl
      have hqe : q = ⟨g1, g2, g3, g4, qs, rs⟩ := HQE.out
      subst hqe
      obtain ⟨hp1, hp2⟩ := HP.out _ rfl
      obtain ⟨hp3, hp4⟩ := HPL.out _ rfl
      have HP1 := Lib.hid hp1
      have HP2 := Lib.hid hp2
      have HZ := Lib.hid HBx.out.size
      have HAQ : Hid (AskAt (w1.alloc (.cells #[.int .u8 (g1.toNat : Int), .int .u16 (g2.toNat : Int), .int .u16 (g3.toNat : Int), .int .u16 (g4.toNat : Int), .slice pw qs.length dpw, .slice pb rs.length dpb] 26)) (w1.alloc (.cells #[.int .u8 (g1.toNat : Int), .int .u16 (g2.toNat : Int), .int .u16 (g3.toNat : Int), .int .u16 (g4.toNat : Int), .slice pw qs.length dpw, .slice pb rs.length dpb] 26)).heap.size ⟨g1, g2, g3, g4, qs, rs⟩ pw dpw pb dpb) := Lib.hid (HQ.out.below ((Below.refl _ _).alloc (Nat.le_refl _) _))
      clear hp1 hp2
      simp only at hp3 hp4
      go_wp2_with fail
      refine (Bytes_any ⟨g1, g2, g3, g4, qs, rs⟩ pw dpw pb dpb _ HAQ.out hp3 hp4).mono ?_
      rw [HP1.out]
      rintro e w2 ⟨al, cl, rfl, hs2, hb2, -⟩
      have hc2 := fun i => (hb2.cell (p := ⟨w1.heap.size, i, none⟩) (by simp)).trans (World.cell?_alloc_new w1 #[.int .u8 (g1.toNat : Int), .int .u16 (g2.toNat : Int), .int .u16 (g3.toNat : Int), .int .u16 (g4.toNat : Int), .slice pw qs.length dpw, .slice pb rs.length dpb] 26 i)
      have HB3 := Lib.hid ((HB2.out _).on (hb2.mono (by have := HZ.out; simp; omega)))
      have HAQ2 := Lib.hid (HAQ.out.below hb2)
      have HS2 := Lib.hid hs2
      clear hs2 hb2
      go_wp2_with fail
      refine (Right_any ⟨g1, g2, g3, g4, qs, rs⟩ pw dpw pb dpb _ hp3 hp4).mono ?_
      rw [HP2.out]
      rintro e w3 ⟨rfl, hb3⟩
      have HB4 := Lib.hid (HB3.out.on (hb3.mono HB3.out.size))
      have HS3 := Lib.hid (HS2.out.below hb3 (Nat.le_refl _))
      clear hb3 hc2
      go_wp2_with fail
      refine (LowSame_any _ _ _ _ _ _ _ _ _ _ _ (HS.out.below HB4.out.below (Nat.le_refl _)) HS3.out).mono ?_
      intro e w4 h
      rw [show decide (l = l) = true by simp] at h
      have HB5 := Lib.hid (HB4.out.on (h.below.mono HB4.out.size))
      obtain ⟨rfl, qn, rfl⟩ := h
      go_wp2_with fail
      go_meet
      exact HB5.out
  case rest =>
    have HBy := hcut
    clear hcut HP HPL HQ HB2 HBx HQE HEV
    have C1 := HBy.out.one
    have C2 := HBy.out.two
    go_wp2_with fail
    refine (HA2.out _ HBy.out.below).mono ?_
    intro e w5 h
    obtain ⟨x1, n1, c1, er1, rfl, hs, HE1, hb⟩ := h.all
    have HB6 := Lib.hid (HBy.out.on (hb.mono HBy.out.size))
    have HS5 := Lib.hid hs
    clear h hs hb C1 C2 HA2
    have C1 := HB6.out.one
    have C2 := HB6.out.two
    go_wp2_with fail
    refine (HO2.out _ HB6.out.below).mono ?_
    intro e W0 h
    obtain ⟨x2, n2, c2, er2, rfl, hs, HE2, hb⟩ := h.all
    have HB7 := Lib.hid (HB6.out.on (hb.mono HB6.out.size))
    have HS6 := Lib.hid ((HS5.out.below hb (Nat.le_refl _)).more hb.size)
    have HS7 := Lib.hid hs
    clear h hs hb C1 C2 HO2 HS5
    have C1 := HB7.out.one
    have C2 := HB7.out.two
    have hz7 := HB7.out.size
    have R0 := Below.refl W0.heap.size W0
    have HA7 := Lib.hid (HA.out.below HB7.out.below)
    have HO7 := Lib.hid (HO.out.below HB7.out.below)
    have hcase : er1 = 12 ∨ (er1 = 0 ∧ er2 = 12) ∨ ∃ la lo, pa = some la ∧ pb2 = some lo ∧ decide (la = lo) = decide ((⟨f1, a1, m1, t1, ws, bs⟩ : Req) = ⟨f2, a2, m2, t2, vs, ds⟩) := by
      rcases HBoth.out with hB | hB | hB
      · exact .inl (by rw [HE1.out, hB]; rfl)
      · have h2 : er2 = 12 := by rw [HE2.out, hB]; rfl
        have h1 := HE1.out
        split at h1
        · exact .inr (.inl ⟨h1, h2⟩)
        · exact .inl h1
      · exact .inr (.inr hB)
    rcases hcase with hB | ⟨hB, hB4⟩ | ⟨la, lo, hB1, hB2, hB3⟩
    · subst hB
      go_wp2_with fail
      refine region_head 14 (by kernel_rfl) (by kernel_rfl) ?_
      intro ops Q' hops hQ
      simp only [List.take_succ_cons, List.take_zero]
      refine HeadP.val (.int .i64 12) (by rfl) ?hr ?_
      case hr => exact run_move (x := .tmp 12) (by rfl) (by kernel_rfl)
      refine HeadP.val (.bool true) (by rfl) ?hr ?_
      case hr => exact run_neq (p := 12) (q := 0) (k := .i64) (x := .tmp 70) (y := .const (.int .i64 0)) (by rfl) (by kernel_rfl) (by rfl) (by rfl)
      refine HeadP.val (.bool true) (by rfl) ?hr ?_
      case hr => exact run_move (x := .tmp 71) (by rfl) (by kernel_rfl)
      refine HeadP.skip (wanted_at (j := 2) (d := 72) (want := false) (b := true) rfl (by rw [hops.out]; rfl) (by kernel_rfl) rfl) ?_
      refine HeadP.skip (wanted_at (j := 2) (d := 72) (want := false) (b := true) rfl (by rw [hops.out]; rfl) (by kernel_rfl) rfl) ?_
      refine HeadP.val (.bool true) (by rfl) ?hr ?_
      case hr => exact run_pick (c := true) (x := .tmp 72) (y := .const (.bool true)) (z := .tmp 74) (by rfl) (by kernel_rfl) (by rfl)
      refine HeadP.val (.bool true) (by rfl) ?hr ?_
      case hr => exact run_move (x := .tmp 75) (by rfl) (by kernel_rfl)
      refine HeadP.skip (wanted_at (j := 6) (d := 76) (want := false) (b := true) rfl (by rw [hops.out]; rfl) (by kernel_rfl) rfl) ?_
      refine HeadP.skip (wanted_at (j := 6) (d := 76) (want := false) (b := true) rfl (by rw [hops.out]; rfl) (by kernel_rfl) rfl) ?_
      refine HeadP.skip (wanted_at (j := 6) (d := 76) (want := false) (b := true) rfl (by rw [hops.out]; rfl) (by kernel_rfl) rfl) ?_
      refine HeadP.skip (wanted_at (j := 6) (d := 76) (want := false) (b := true) rfl (by rw [hops.out]; rfl) (by kernel_rfl) rfl) ?_
      refine HeadP.skip (wanted_at (j := 6) (d := 76) (want := false) (b := true) rfl (by rw [hops.out]; rfl) (by kernel_rfl) rfl) ?_
      refine HeadP.skip (wanted_at (j := 6) (d := 76) (want := false) (b := true) rfl (by rw [hops.out]; rfl) (by kernel_rfl) rfl) ?_
      refine HeadP.skip (wanted_at (j := 6) (d := 76) (want := false) (b := true) rfl (by rw [hops.out]; rfl) (by kernel_rfl) rfl) ?_
      refine HeadP.nil (hQ.out _ ?_)
      simp only [Act.put, List.setIfInBounds_toArray, List.set_cons_succ, List.set_cons_zero, List.drop_succ_cons, List.drop_zero]
      clear hops hQ
      go_wp2_with fail
      refine (awake_any _).mono ?_
      rintro e w' ⟨rfl, hb⟩
      go_wp2_with fail
      go_ret
      exact Says.mk (HB7.out.below.trans ((Below.refl _ _).drew.trans (hb.mono HB7.out.below.size)))
    · subst hB hB4
      go_wp2_with fail
      refine region_head 14 (by kernel_rfl) (by kernel_rfl) ?_
      intro ops Q' hops hQ
      simp only [List.take_succ_cons, List.take_zero]
      refine HeadP.val (.int .i64 0) (by rfl) ?hr ?_
      case hr => exact run_move (x := .tmp 12) (by rfl) (by kernel_rfl)
      refine HeadP.val (.bool false) (by rfl) ?hr ?_
      case hr => exact run_neq (p := 0) (q := 0) (k := .i64) (x := .tmp 70) (y := .const (.int .i64 0)) (by rfl) (by kernel_rfl) (by rfl) (by rfl)
      refine HeadP.val (.bool false) (by rfl) ?hr ?_
      case hr => exact run_move (x := .tmp 71) (by rfl) (by kernel_rfl)
      refine HeadP.val (.int .i64 12) (wanted_at (j := 2) (d := 72) (want := false) (b := false) rfl (by rw [hops.out]; rfl) (by kernel_rfl) rfl) ?hr ?_
      case hr => exact run_move (x := .tmp 14) (by rfl) (by kernel_rfl)
      refine HeadP.val (.bool true) (wanted_at (j := 2) (d := 72) (want := false) (b := false) rfl (by rw [hops.out]; rfl) (by kernel_rfl) rfl) ?hr ?_
      case hr => exact run_neq (p := 12) (q := 0) (k := .i64) (x := .tmp 73) (y := .const (.int .i64 0)) (by rfl) (by kernel_rfl) (by rfl) (by rfl)
      refine HeadP.val (.bool true) (by rfl) ?hr ?_
      case hr => exact run_pick (c := false) (x := .tmp 72) (y := .const (.bool true)) (z := .tmp 74) (by rfl) (by kernel_rfl) (by kernel_rfl)
      refine HeadP.val (.bool true) (by rfl) ?hr ?_
      case hr => exact run_move (x := .tmp 75) (by rfl) (by kernel_rfl)
      refine HeadP.skip (wanted_at (j := 6) (d := 76) (want := false) (b := true) rfl (by rw [hops.out]; rfl) (by kernel_rfl) rfl) ?_
      refine HeadP.skip (wanted_at (j := 6) (d := 76) (want := false) (b := true) rfl (by rw [hops.out]; rfl) (by kernel_rfl) rfl) ?_
      refine HeadP.skip (wanted_at (j := 6) (d := 76) (want := false) (b := true) rfl (by rw [hops.out]; rfl) (by kernel_rfl) rfl) ?_
      refine HeadP.skip (wanted_at (j := 6) (d := 76) (want := false) (b := true) rfl (by rw [hops.out]; rfl) (by kernel_rfl) rfl) ?_
      refine HeadP.skip (wanted_at (j := 6) (d := 76) (want := false) (b := true) rfl (by rw [hops.out]; rfl) (by kernel_rfl) rfl) ?_
      refine HeadP.skip (wanted_at (j := 6) (d := 76) (want := false) (b := true) rfl (by rw [hops.out]; rfl) (by kernel_rfl) rfl) ?_
      refine HeadP.skip (wanted_at (j := 6) (d := 76) (want := false) (b := true) rfl (by rw [hops.out]; rfl) (by kernel_rfl) rfl) ?_
      refine HeadP.nil (hQ.out _ ?_)
      simp only [Act.put, List.setIfInBounds_toArray, List.set_cons_succ, List.set_cons_zero, List.drop_succ_cons, List.drop_zero]
      clear hops hQ
      go_wp2_with fail
      refine (awake_any _).mono ?_
      rintro e w' ⟨rfl, hb⟩
      go_wp2_with fail
      go_ret
      exact Says.mk (HB7.out.below.trans ((Below.refl _ _).drew.trans (hb.mono HB7.out.below.size)))
    · have he1 : er1 = 0 := by rw [HE1.out, hB1]; rfl
      have he2 : er2 = 0 := by rw [HE2.out, hB2]; rfl
      subst he1 he2
      rw [hB1] at HS6
      rw [hB2] at HS7
      obtain ⟨z, hz⟩ : ∃ z, decide ((⟨f1, a1, m1, t1, ws, bs⟩ : Req) = ⟨f2, a2, m2, t2, vs, ds⟩) = z := ⟨_, rfl⟩
      have HLX := Lib.hid (hB3.trans hz)
      have HLY := Lib.hid hz
      clear hB1 hB2 hB3 hz
      go_wp2_with fail
      refine region_head 12 (by kernel_rfl) (by kernel_rfl) ?_
      intro ops Q' hops hQ
      simp only [List.take_succ_cons, List.take_zero]
      refine HeadP.val (.int .i64 0) (by rfl) ?hr ?_
      case hr => exact run_move (x := .tmp 12) (by rfl) (by kernel_rfl)
      refine HeadP.val (.bool false) (by rfl) ?hr ?_
      case hr => exact run_neq (p := 0) (q := 0) (k := .i64) (x := .tmp 70) (y := .const (.int .i64 0)) (by rfl) (by kernel_rfl) (by rfl) (by rfl)
      refine HeadP.val (.bool false) (by rfl) ?hr ?_
      case hr => exact run_move (x := .tmp 71) (by rfl) (by kernel_rfl)
      refine HeadP.val (.int .i64 0) (wanted_at (j := 2) (d := 72) (want := false) (b := false) rfl (by rw [hops.out]; rfl) (by kernel_rfl) rfl) ?hr ?_
      case hr => exact run_move (x := .tmp 14) (by rfl) (by kernel_rfl)
      refine HeadP.val (.bool false) (wanted_at (j := 2) (d := 72) (want := false) (b := false) rfl (by rw [hops.out]; rfl) (by kernel_rfl) rfl) ?hr ?_
      case hr => exact run_neq (p := 0) (q := 0) (k := .i64) (x := .tmp 73) (y := .const (.int .i64 0)) (by rfl) (by kernel_rfl) (by rfl) (by rfl)
      refine HeadP.val (.bool false) (by rfl) ?hr ?_
      case hr => exact run_pick (c := false) (x := .tmp 72) (y := .const (.bool true)) (z := .tmp 74) (by rfl) (by kernel_rfl) (by kernel_rfl)
      refine HeadP.val (.bool false) (by rfl) ?hr ?_
      case hr => exact run_move (x := .tmp 75) (by rfl) (by kernel_rfl)
      refine HeadP.val (.slice x1 n1 c1) (wanted_at (j := 6) (d := 76) (want := false) (b := false) rfl (by rw [hops.out]; rfl) (by kernel_rfl) rfl) ?hr ?_
      case hr => exact run_move (x := .tmp 11) (by rfl) (by kernel_rfl)
      refine HeadP.val (.slice x2 n2 c2) (wanted_at (j := 6) (d := 76) (want := false) (b := false) rfl (by rw [hops.out]; rfl) (by kernel_rfl) rfl) ?hr ?_
      case hr => exact run_move (x := .tmp 13) (by rfl) (by kernel_rfl)
      refine HeadP.call 22 #[.slice x1 n1 c1, .slice x2 n2 c2] (.bool z) (wanted_at (j := 6) (d := 76) (want := false) (b := false) rfl (by rw [hops.out]; rfl) (by kernel_rfl) rfl) ?hr (lowsame_still (W := W0.drew) HS6.out HS7.out HLX.out) ?_
      case hr => exact (congrArg (fun s => Sem.run Try.prog s W0.drew) (by kernel_rfl)).trans (enters_low #[.slice x1 n1 c1, .slice x2 n2 c2] W0.drew)
      refine HeadP.val (.agg #[b8 f1, b16 a1, b16 m1, b16 t1, .slice aw ws.length cw, .slice ab bs.length cb]) (wanted_at (j := 6) (d := 76) (want := false) (b := false) rfl (by rw [hops.out]; rfl) (by kernel_rfl) rfl) ?hr ?_
      case hr => exact run_load_row (x := .tmp 4) (t := 26) (g := w.heap.size) (fr := (0, 0)) (by rfl) (by kernel_rfl) HB7.out.h1 Try.underlying26 rfl (by kernel_rfl)
      refine HeadP.val (.agg #[b8 f2, b16 a2, b16 m2, b16 t2, .slice ow vs.length dw, .slice ob ds.length db]) (wanted_at (j := 6) (d := 76) (want := false) (b := false) rfl (by rw [hops.out]; rfl) (by kernel_rfl) rfl) ?hr ?_
      case hr => exact run_load_row (x := .tmp 5) (t := 26) (g := w.heap.size + 1) (fr := (0, 0)) (by rfl) (by kernel_rfl) HB7.out.h2 Try.underlying26 rfl (by kernel_rfl)
      refine HeadP.nil (hQ.out _ ?_)
      simp only [Act.put, List.setIfInBounds_toArray, List.set_cons_succ, List.set_cons_zero, List.drop_succ_cons, List.drop_zero]
      clear hops hQ
      go_wp2_with fail
      refine (same_on (W0 := W0) HA7.out HO7.out HLY.out _ R0.drew).mono ?_
      rintro e w' ⟨rfl, hb⟩
      go_wp2_with fail
      refine (awake_on (W0 := W0) _ hb).mono ?_
      rintro e w'' ⟨rfl, hb2⟩
      go_wp2_with fail
      go_ret
      exact Says.mk (HB7.out.below.trans (hb2.mono HB7.out.below.size))
end Go.Proofs.Ytjgkomigjdlfhaa.AskW
