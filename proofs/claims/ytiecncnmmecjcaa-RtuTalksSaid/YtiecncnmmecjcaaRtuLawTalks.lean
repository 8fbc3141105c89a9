/- The law RtuTalks, walked. -/
import Derived.Test.YtiecncnmmecjcaaRtuAwake
open Go.RowKit
namespace Go.Proofs.Ytiecncnmmecjcaa.RtuW
open CrcM AskM AskW ReplyM ReplyW RtuM Mem

theorem askR_ok {u : UInt8} {a : Req} {b : List UInt8} (hu : unitB u = true) (h : bytesN a = some b) : ∃ x, askR u a = (0, x) ∧ openR x = (0, u, b) := by
  obtain ⟨_, h1, h2, _⟩ := bytes_facts h
  have hf : frameR u b = (0, CrcW.putN (u :: b)) := by unfold frameR; rw [if_pos ⟨hu, by omega, by omega⟩]
  exact ⟨_, (askR_some h).trans hf, open_frame hf⟩
theorem replies_ok {u : UInt8} {r : Rep} {b : List UInt8} (hu : unitB u = true) (h : rbytesN r = some b) : ∃ x, frameR u b = (0, x) ∧ replyR u x = (0, some r) ∧ ∀ v, v ≠ u → replyR v x = (10, none) := by
  obtain ⟨_, h1, h2, _⟩ := rbytes_facts h
  have hf : frameR u b = (0, CrcW.putN (u :: b)) := by unfold frameR; rw [if_pos ⟨hu, by omega, by omega⟩]
  have ho := open_frame hf
  refine ⟨_, hf, ?_, fun v hv => replyR_other ho (fun e => hv e.symm)⟩
  rw [replyR_one ho, rparse_bytes h]
  rfl
theorem same_at (v1 v2 : Value) (a o : Req) (aw : Option Addr) (cw : Nat) (ab : Option Addr) (cb : Nat) (ow : Option Addr) (dw : Nat) (ob : Option Addr) (db : Nat) (w : World) (h1 : v1 = askV a aw cw ab cb) (h2 : v2 = askV o ow dw ob db)
    (hA : AskAt w w.heap.size a aw cw ab cb) (hO : AskAt w w.heap.size o ow dw ob db) :
    Calls Try.prog 17 #[v1, v2] w (Says (.bool (decide (a = o))) w) := by
  subst h1 h2
  exact Same_any a o aw cw ab cb ow dw ob db w hA hO

set_option maxRecDepth 100000 in
set_option maxHeartbeats 40000000 in
theorem RtuTalks_u (a : Req) (aw : Option Addr) (cw : Nat) (ab : Option Addr) (cb : Nat) (r : Rep) (ow : Option Addr) (dw : Nat) (ob : Option Addr) (db : Nat) (u v : UInt8) (w : World) (hA : AskAt w w.heap.size a aw cw ab cb) (hR : RepAt w w.heap.size r ow dw ob db) :
    Calls Try.prog 10 #[askV a aw cw ab cb, repV r ow dw ob db, b8 u, b8 v] w (Says (.bool true) w) := by
  have l1 := len_le hA.words
  have l2 := len_le hA.bits
  have l3 := len_le hR.words
  have l4 := len_le hR.bits
  have HA := Lib.hid hA
  have HR := Lib.hid hR
  clear hA hR
  obtain ⟨f1, a1, m1, t1, ws, bs⟩ := a
  obtain ⟨f2, x2, ds, vs, a2, m2⟩ := r
  simp only at l1 l2 l3 l4
  have hu := u.toNat_lt
  by_cases h1 : ws.length ≤ 200 ∧ bs.length ≤ 2100
  case neg =>
    have hx := Lib.hid (few_false h1)
    clear h1
    go_enter Try.func10, Try.ntmps10
    go_wp2_with fail
    refine (Few_any _ _ _ _ _ _ _ l1 l2).mono ?_
    rintro e w1 ⟨rfl, rfl⟩
    rw [hx.out]
    go_wp2_with fail
    refine (qawake_any _).mono ?_
    rintro e w1 ⟨rfl, hb⟩
    go_wp2_with fail
    go_ret
    exact Says.mk ((below_two w _ _).trans (hb.mono (by simp; omega)))
  have hx1 := Lib.hid (few_true h1.1 h1.2)
  by_cases h2 : vs.length ≤ 200 ∧ ds.length ≤ 2100
  case neg =>
    have hx := Lib.hid (few_false h2)
    clear h1 h2
    go_enter Try.func10, Try.ntmps10
    go_wp2_with fail
    refine (Few_any _ _ _ _ _ _ _ l1 l2).mono ?_
    rintro e w1 ⟨rfl, rfl⟩
    rw [hx1.out]
    go_wp2_with fail
    refine (Few_any _ _ _ _ _ _ _ l3 l4).mono ?_
    rintro e w1 ⟨rfl, rfl⟩
    rw [hx.out]
    go_wp2_with fail
    refine (qawake_any _).mono ?_
    rintro e w1 ⟨rfl, hb⟩
    go_wp2_with fail
    go_ret
    exact Says.mk ((below_two w _ _).trans (hb.mono (by simp; omega)))
  have hx2 := Lib.hid (few_true h2.1 h2.2)
  by_cases hu0 : u.toNat = 0
  · have s1 : ((u.toNat : Int) == 0) = true := by simp; omega
    clear h1 h2 hu0
    go_enter Try.func10, Try.ntmps10
    go_wp2_with fail
    refine (Few_any _ _ _ _ _ _ _ l1 l2).mono ?_
    rintro e w1 ⟨rfl, rfl⟩
    rw [hx1.out]
    go_wp2_with fail
    refine (Few_any _ _ _ _ _ _ _ l3 l4).mono ?_
    rintro e w1 ⟨rfl, rfl⟩
    rw [hx2.out]
    go_wp2_with fail
    refine (qawake_any _).mono ?_
    rintro e w1 ⟨rfl, hb⟩
    go_wp2_with fail
    go_ret
    exact Says.mk ((below_two w _ _).trans (hb.mono (by simp; omega)))
  have s1 : ((u.toNat : Int) == 0) = false := by simp; omega
  by_cases hu1 : 247 < u.toNat
  · have s2 : decide (247 < (u.toNat : Int)) = true := by simp; omega
    clear h1 h2 hu0 hu1
    go_enter Try.func10, Try.ntmps10
    go_wp2_with fail
    refine (Few_any _ _ _ _ _ _ _ l1 l2).mono ?_
    rintro e w1 ⟨rfl, rfl⟩
    rw [hx1.out]
    go_wp2_with fail
    refine (Few_any _ _ _ _ _ _ _ l3 l4).mono ?_
    rintro e w1 ⟨rfl, rfl⟩
    rw [hx2.out]
    go_wp2_with fail
    refine (qawake_any _).mono ?_
    rintro e w1 ⟨rfl, hb⟩
    go_wp2_with fail
    go_ret
    exact Says.mk ((below_two w _ _).trans (hb.mono (by simp; omega)))
  have s2 : decide (247 < (u.toNat : Int)) = false := by simp; omega
  have HU : Hid (unitB u = true) := Lib.hid (by unfold unitB; simp; omega)
  have hws : ws.length ≤ 1000000 := by omega
  have hbs : bs.length ≤ 1000000 := by omega
  have hvs : vs.length ≤ 1000000 := by omega
  have hds : ds.length ≤ 1000000 := by omega
  have HBX0 : Hid (Boxed w #[.int .u8 (f1.toNat : Int), .int .u16 (a1.toNat : Int), .int .u16 (m1.toNat : Int), .int .u16 (t1.toNat : Int), .slice aw ws.length cw, .slice ab bs.length cb] #[.int .u8 (f2.toNat : Int), .int .u8 (x2.toNat : Int), .slice ob ds.length db, .slice ow vs.length dw, .int .u16 (a2.toNat : Int), .int .u16 (m2.toNat : Int)] 26 48 ((w.alloc (.cells #[.int .u8 (f1.toNat : Int), .int .u16 (a1.toNat : Int), .int .u16 (m1.toNat : Int), .int .u16 (t1.toNat : Int), .slice aw ws.length cw, .slice ab bs.length cb] 26)).alloc (.cells #[.int .u8 (f2.toNat : Int), .int .u8 (x2.toNat : Int), .slice ob ds.length db, .slice ow vs.length dw, .int .u16 (a2.toNat : Int), .int .u16 (m2.toNat : Int)] 48))) := Lib.hid (Below.refl _ _)
  have hAO := fun (W : World) (h : Below w.heap.size w W) => Ask_own u ⟨f1, a1, m1, t1, ws, bs⟩ aw cw ab cb W (HA.out.below h) hws hbs
  clear h1 h2 hu0 hu1
  cases hbn : bytesN ⟨f1, a1, m1, t1, ws, bs⟩ with
  | none =>
    have HRF : Hid (rightN ⟨f1, a1, m1, t1, ws, bs⟩ = false) := Lib.hid (rightN_false.2 hbn)
    have HAN := Lib.hid (askR_none (u := u) hbn)
    clear hbn
    go_enter Try.func10, Try.ntmps10
    go_wp2_with fail
    refine (Few_any _ _ _ _ _ _ _ l1 l2).mono ?_
    rintro e w1 ⟨rfl, rfl⟩
    rw [hx1.out]
    go_wp2_with fail
    refine (Few_any _ _ _ _ _ _ _ l3 l4).mono ?_
    rintro e w1 ⟨rfl, rfl⟩
    rw [hx2.out]
    have C1 := HBX0.out.one
    have C2 := HBX0.out.two
    generalize (w.alloc (.cells #[.int .u8 (f1.toNat : Int), .int .u16 (a1.toNat : Int), .int .u16 (m1.toNat : Int), .int .u16 (t1.toNat : Int), .slice aw ws.length cw, .slice ab bs.length cb] 26)).alloc (.cells #[.int .u8 (f2.toNat : Int), .int .u8 (x2.toNat : Int), .slice ob ds.length db, .slice ow vs.length dw, .int .u16 (a2.toNat : Int), .int .u16 (m2.toNat : Int)] 48) = W0 at *
    go_wp2_with fail
    have hAO1 := hAO W0 HBX0.out.below
    rw [HAN.out] at hAO1
    have HAO := Lib.hid hAO1
    clear hAO1 hAO
    refine HAO.out.mono ?_
    rintro e w2 ⟨v2, rfl, -, hb2⟩
    have HBX1 := Lib.hid (HBX0.out.on (hb2.mono HBX0.out.size))
    clear hb2 HAO C1 C2 HBX0
    have C1 := HBX1.out.one
    have C2 := HBX1.out.two
    go_wp2_with fail
    refine (Right_any ⟨f1, a1, m1, t1, ws, bs⟩ aw cw ab cb _ hws hbs).mono ?_
    rw [HRF.out]
    rintro e w3 ⟨rfl, hb3⟩
    have HBX := Lib.hid (HBX1.out.on (hb3.mono HBX1.out.size))
    clear hb3 C1 C2 HBX1
    have C1 := HBX.out.one
    have C2 := HBX.out.two
    have hRB := RBytes_any ⟨f2, x2, ds, vs, a2, m2⟩ ow dw ob db w3 (HR.out.below HBX.out.below) hvs hds
    cases hrb : rbytesN ⟨f2, x2, ds, vs, a2, m2⟩ with
    | none =>
      rw [hrb] at hRB
      have HRB := Lib.hid hRB
      clear hRB hrb
      go_wp2_with fail
      refine HRB.out.mono ?_
      rintro e w7 ⟨rfl, hb⟩
      have HB7 := Lib.hid (HBX.out.below.trans (hb.mono HBX.out.below.size))
      clear hb HRB C1 C2
      go_wp2_with fail
      refine (qawake_any _).mono ?_
      rintro e w8 ⟨rfl, hb8⟩
      have HB8 := Lib.hid (HB7.out.trans (hb8.mono HB7.out.size))
      go_wp2_with fail
      go_ret
      exact Says.mk HB8.out
    | some lr =>
      rw [hrb] at hRB
      have HRB := Lib.hid hRB
      obtain ⟨x, hfx, hrx, hox⟩ := replies_ok HU.out hrb
      have HFX := Lib.hid hfx
      have HRX := Lib.hid hrx
      have HOX := Lib.hid (hox v)
      clear hRB hrb hfx hrx hox
      go_wp2_with fail
      refine HRB.out.mono ?_
      rintro e w7 ⟨a7, c7, rfl, hs7, hb7, -⟩
      have HB7 := Lib.hid (HBX.out.on (hb7.mono HBX.out.size))
      have hBY := Bytes_own u _ _ _ _ _ hs7
      rw [HFX.out] at hBY
      have HBY := Lib.hid hBY
      clear hb7 hs7 hBY HRB C1 C2
      go_wp2_with fail
      refine HBY.out.mono ?_
      rintro e w8 ⟨v8, rfl, ho8, hb8⟩
      obtain ⟨a8, c8, rfl, hs8⟩ := Sl.of_own ho8
      have HB8 := Lib.hid (HB7.out.on (hb8.mono HB7.out.size))
      have HS8 := Lib.hid hs8
      have hRY := Reply_any u _ _ _ _ _ hs8
      rw [HRX.out] at hRY
      have HRY := Lib.hid hRY
      clear hb8 hs8 ho8 hRY HBY HB7
      go_wp2_with fail
      refine HRY.out.mono ?_
      rintro e w9 ⟨pw, cpw, pb, cpb, rfl, hP, hb9, -⟩
      have HB9 := Lib.hid (HB8.out.on (hb9.mono HB8.out.size))
      have HS9 := Lib.hid ((HS8.out.below hb9 (Nat.le_refl _)).more hb9.size)
      have HP := Lib.hid hP
      clear hb9 HRY HB8 HS8 hP
      simp only [Option.getD_some] at *
      by_cases huv : u = v
      · subst huv
        have te : ((u.toNat : Int) == (u.toNat : Int)) = true := by simp
        go_wp2_with fail
        have HZ := Lib.hid (show (w9.alloc (.cells #[.int .u8 (f2.toNat : Int), .int .u8 (x2.toNat : Int), .slice pb ds.length cpb, .slice pw vs.length cpw, .int .u16 (a2.toNat : Int), .int .u16 (m2.toNat : Int)] 48)).heap.size = w9.heap.size + 1 by simp)
        have HRW := Lib.hid (heap_alloc_new w9 (.cells #[.int .u8 (f2.toNat : Int), .int .u8 (x2.toNat : Int), .slice pb ds.length cpb, .slice pw vs.length cpw, .int .u16 (a2.toNat : Int), .int .u16 (m2.toNat : Int)] 48))
        have HBA := Lib.hid ((Below.refl w9.heap.size w9).alloc (Nat.le_refl _) (.cells #[.int .u8 (f2.toNat : Int), .int .u8 (x2.toNat : Int), .slice pb ds.length cpb, .slice pw vs.length cpw, .int .u16 (a2.toNat : Int), .int .u16 (m2.toNat : Int)] 48))
        generalize w9.alloc (.cells #[.int .u8 (f2.toNat : Int), .int .u8 (x2.toNat : Int), .slice pb ds.length cpb, .slice pw vs.length cpw, .int .u16 (a2.toNat : Int), .int .u16 (m2.toNat : Int)] 48) = W9 at *
        have hRY := Reply_any u _ _ _ _ W9 ((HS9.out.below HBA.out (Nat.le_refl _)).more HBA.out.size)
        rw [HRX.out] at hRY
        have HRY := Lib.hid hRY
        clear hRY
        refine HRY.out.mono ?_
        rintro e w10 ⟨qw, cqw, qb, cqb, rfl, -, hb10, -⟩
        have HW10 := Lib.hid (HB9.out.on ((HBA.out.trans (hb10.mono HBA.out.size)).mono HB9.out.size))
        have HRW10 := Lib.hid ((hb10.block w9.heap.size (by have := HZ.out; omega)).trans HRW.out)
        have HP10 := Lib.hid ((HP.out.up HBA.out (Nat.le_refl _)).up hb10 (Nat.le_refl _))
        have HL9 : Hid (w9.heap.size < w10.heap.size) := Lib.hid (by have := hb10.size; have := HZ.out; omega)
        clear hb10 HRY HZ HRW HBA HS9 HP HB9
        simp only [Option.getD_some, Option.getD_none, zeroR]
        have E2 := fun (x : Obj) (o : Nat) => (World.cell?_alloc_lt w10 x ⟨w.heap.size + 1, o, none⟩ (by have := HW10.out.size; show w.heap.size + 1 < _; omega)).trans (HW10.out.two o)
        have E1 := fun (x : Obj) (o : Nat) => (World.cell?_alloc_lt w10 x ⟨w9.heap.size, o, none⟩ HL9.out).trans (cell_of_row _ _ o _ _ _ HRW10.out)
        have HRA := Lib.hid (HR.out.below HW10.out.below)
        go_wp2_with fail
        refine (RSame_at _ _ ⟨f2, x2, ds, vs, a2, m2⟩ ⟨f2, x2, ds, vs, a2, m2⟩ pw cpw pb cpb ow dw ob db _ rfl rfl (HP10.out.below ((Below.refl _ _).alloc (Nat.le_refl _) _)) (HRA.out.below ((Below.refl _ _).alloc (Nat.le_refl _) _))).mono ?_
        rw [show decide ((⟨f2, x2, ds, vs, a2, m2⟩ : Rep) = ⟨f2, x2, ds, vs, a2, m2⟩) = true by simp]
        rintro e w11 ⟨rfl, hb11⟩
        have HB11 := Lib.hid (says_on HW10.out.below hb11)
        clear hb11 E1 E2
        go_wp2_with fail
        refine (qawake_any _).mono ?_
        rintro e w12 ⟨rfl, hb12⟩
        have HB12 := Lib.hid (HB11.out.trans (hb12.mono HB11.out.size))
        go_wp2_with fail
        go_ret
        exact Says.mk HB12.out
      · have te : ((u.toNat : Int) == (v.toNat : Int)) = false := ne8 huv
        go_wp2_with fail
        have HZ := Lib.hid (show (w9.alloc (.cells #[.int .u8 (f2.toNat : Int), .int .u8 (x2.toNat : Int), .slice pb ds.length cpb, .slice pw vs.length cpw, .int .u16 (a2.toNat : Int), .int .u16 (m2.toNat : Int)] 48)).heap.size = w9.heap.size + 1 by simp)
        have HRW := Lib.hid (heap_alloc_new w9 (.cells #[.int .u8 (f2.toNat : Int), .int .u8 (x2.toNat : Int), .slice pb ds.length cpb, .slice pw vs.length cpw, .int .u16 (a2.toNat : Int), .int .u16 (m2.toNat : Int)] 48))
        have HBA := Lib.hid ((Below.refl w9.heap.size w9).alloc (Nat.le_refl _) (.cells #[.int .u8 (f2.toNat : Int), .int .u8 (x2.toNat : Int), .slice pb ds.length cpb, .slice pw vs.length cpw, .int .u16 (a2.toNat : Int), .int .u16 (m2.toNat : Int)] 48))
        generalize w9.alloc (.cells #[.int .u8 (f2.toNat : Int), .int .u8 (x2.toNat : Int), .slice pb ds.length cpb, .slice pw vs.length cpw, .int .u16 (a2.toNat : Int), .int .u16 (m2.toNat : Int)] 48) = W9 at *
        have hRY := Reply_any v _ _ _ _ W9 ((HS9.out.below HBA.out (Nat.le_refl _)).more HBA.out.size)
        rw [HOX.out (fun e => huv e.symm)] at hRY
        have HRY := Lib.hid hRY
        clear hRY huv
        refine HRY.out.mono ?_
        rintro e w10 ⟨qw, cqw, qb, cqb, rfl, -, hb10, -⟩
        have HW10 := Lib.hid (HB9.out.on ((HBA.out.trans (hb10.mono HBA.out.size)).mono HB9.out.size))
        have HRW10 := Lib.hid ((hb10.block w9.heap.size (by have := HZ.out; omega)).trans HRW.out)
        have HP10 := Lib.hid ((HP.out.up HBA.out (Nat.le_refl _)).up hb10 (Nat.le_refl _))
        have HL9 : Hid (w9.heap.size < w10.heap.size) := Lib.hid (by have := hb10.size; have := HZ.out; omega)
        clear hb10 HRY HZ HRW HBA HS9 HP HB9
        simp only [Option.getD_some, Option.getD_none, zeroR]
        have E2 := fun (x : Obj) (o : Nat) => (World.cell?_alloc_lt w10 x ⟨w.heap.size + 1, o, none⟩ (by have := HW10.out.size; show w.heap.size + 1 < _; omega)).trans (HW10.out.two o)
        have E1 := fun (x : Obj) (o : Nat) => (World.cell?_alloc_lt w10 x ⟨w9.heap.size, o, none⟩ HL9.out).trans (cell_of_row _ _ o _ _ _ HRW10.out)
        have HRA := Lib.hid (HR.out.below HW10.out.below)
        go_wp2_with fail
        refine (RSame_at _ _ ⟨f2, x2, ds, vs, a2, m2⟩ ⟨f2, x2, ds, vs, a2, m2⟩ pw cpw pb cpb ow dw ob db _ rfl rfl (HP10.out.below ((Below.refl _ _).alloc (Nat.le_refl _) _)) (HRA.out.below ((Below.refl _ _).alloc (Nat.le_refl _) _))).mono ?_
        rw [show decide ((⟨f2, x2, ds, vs, a2, m2⟩ : Rep) = ⟨f2, x2, ds, vs, a2, m2⟩) = true by simp]
        rintro e w11 ⟨rfl, hb11⟩
        have HB11 := Lib.hid (says_on HW10.out.below hb11)
        clear hb11 E1 E2
        go_wp2_with fail
        refine (qawake_any _).mono ?_
        rintro e w12 ⟨rfl, hb12⟩
        have HB12 := Lib.hid (HB11.out.trans (hb12.mono HB11.out.size))
        go_wp2_with fail
        go_ret
        exact Says.mk HB12.out
  | some la =>
    have HRF : Hid (rightN ⟨f1, a1, m1, t1, ws, bs⟩ = true) := Lib.hid (rightN_iff.2 ⟨la, hbn⟩)
    obtain ⟨xa, hax, hox⟩ := askR_ok HU.out hbn
    have HAN := Lib.hid hax
    have HOP := Lib.hid hox
    have HPA := Lib.hid (parse_bytes hbn)
    clear hbn hax hox
    go_enter Try.func10, Try.ntmps10
    go_wp2_with fail
    refine (Few_any _ _ _ _ _ _ _ l1 l2).mono ?_
    rintro e w1 ⟨rfl, rfl⟩
    rw [hx1.out]
    go_wp2_with fail
    refine (Few_any _ _ _ _ _ _ _ l3 l4).mono ?_
    rintro e w1 ⟨rfl, rfl⟩
    rw [hx2.out]
    have C1 := HBX0.out.one
    have C2 := HBX0.out.two
    generalize (w.alloc (.cells #[.int .u8 (f1.toNat : Int), .int .u16 (a1.toNat : Int), .int .u16 (m1.toNat : Int), .int .u16 (t1.toNat : Int), .slice aw ws.length cw, .slice ab bs.length cb] 26)).alloc (.cells #[.int .u8 (f2.toNat : Int), .int .u8 (x2.toNat : Int), .slice ob ds.length db, .slice ow vs.length dw, .int .u16 (a2.toNat : Int), .int .u16 (m2.toNat : Int)] 48) = W0 at *
    go_wp2_with fail
    have hAO1 := hAO W0 HBX0.out.below
    rw [HAN.out] at hAO1
    have HAO := Lib.hid hAO1
    clear hAO1 hAO
    refine HAO.out.mono ?_
    rintro e w2 ⟨v2, rfl, ho2, hb2⟩
    obtain ⟨ax, cx, rfl, hs2⟩ := Sl.of_own ho2
    have HBX1 := Lib.hid (HBX0.out.on (hb2.mono HBX0.out.size))
    have HS2 := Lib.hid hs2
    clear hb2 hs2 ho2 HAO C1 C2 HBX0
    have C1 := HBX1.out.one
    have C2 := HBX1.out.two
    go_wp2_with fail
    refine (Right_any ⟨f1, a1, m1, t1, ws, bs⟩ aw cw ab cb _ hws hbs).mono ?_
    rw [HRF.out]
    rintro e w3 ⟨rfl, hb3⟩
    have HBX2 := Lib.hid (HBX1.out.on (hb3.mono HBX1.out.size))
    have hPQ := Parse_any _ _ _ _ _ ((HS2.out.below hb3 (Nat.le_refl _)).more hb3.size)
    rw [HOP.out] at hPQ
    have HPQ := Lib.hid hPQ
    clear hb3 C1 C2 HBX1 hPQ
    have C1 := HBX2.out.one
    have C2 := HBX2.out.two
    go_wp2_with fail
    refine HPQ.out.mono ?_
    rintro e w4 ⟨a4, c4, rfl, hs4, hb4, -⟩
    have HBX3 := Lib.hid (HBX2.out.on (hb4.mono HBX2.out.size))
    have hPQ := AskW.Parse_any _ _ _ _ _ hs4
    rw [HPA.out] at hPQ
    have HPQ2 := Lib.hid hPQ
    clear hb4 hs4 hPQ HPQ C1 C2 HBX2 HS2
    have te : ((u.toNat : Int) != (u.toNat : Int)) = false := by simp
    go_wp2_with fail
    refine HPQ2.out.mono ?_
    rintro e w5 ⟨pw, dpw, pb, dpb, rfl, hP, hb5, -⟩
    have HBX4 := Lib.hid (HBX3.out.on (hb5.mono HBX3.out.size))
    have HP := Lib.hid hP
    clear hb5 hP HPQ2 HBX3
    simp only [Option.getD_some, Option.isSome_some, if_true]
    have C1 := HBX4.out.one
    have D1 := fun (x : Obj) (o : Nat) => (World.cell?_alloc_lt w5 x ⟨w.heap.size, o, none⟩ (by have := HBX4.out.size; show w.heap.size < _; omega)).trans (C1 o)
    go_wp2_with fail
    refine (same_at _ _ ⟨f1, a1, m1, t1, ws, bs⟩ ⟨f1, a1, m1, t1, ws, bs⟩ pw dpw pb dpb aw cw ab cb _ rfl rfl (HP.out.below ((Below.refl _ _).alloc (Nat.le_refl _) _)) ((HA.out.below HBX4.out.below).below ((Below.refl _ _).alloc (Nat.le_refl _) _))).mono ?_
    rw [show decide ((⟨f1, a1, m1, t1, ws, bs⟩ : Req) = ⟨f1, a1, m1, t1, ws, bs⟩) = true by simp]
    rintro e w6 ⟨rfl, hb6⟩
    have HBX := Lib.hid ((HBX4.out.on ((Below.refl _ _).alloc HBX4.out.size _)).on (hb6.mono (by have := HBX4.out.size; simp; omega)))
    clear hb6 C1 D1 HBX4 HP te
    have C1 := HBX.out.one
    have C2 := HBX.out.two
    have hRB := RBytes_any ⟨f2, x2, ds, vs, a2, m2⟩ ow dw ob db w6 (HR.out.below HBX.out.below) hvs hds
    cases hrb : rbytesN ⟨f2, x2, ds, vs, a2, m2⟩ with
    | none =>
      rw [hrb] at hRB
      have HRB := Lib.hid hRB
      clear hRB hrb
      go_wp2_with fail
      refine HRB.out.mono ?_
      rintro e w7 ⟨rfl, hb⟩
      have HB7 := Lib.hid (HBX.out.below.trans (hb.mono HBX.out.below.size))
      clear hb HRB C1 C2
      go_wp2_with fail
      refine (qawake_any _).mono ?_
      rintro e w8 ⟨rfl, hb8⟩
      have HB8 := Lib.hid (HB7.out.trans (hb8.mono HB7.out.size))
      go_wp2_with fail
      go_ret
      exact Says.mk HB8.out
    | some lr =>
      rw [hrb] at hRB
      have HRB := Lib.hid hRB
      obtain ⟨x, hfx, hrx, hox⟩ := replies_ok HU.out hrb
      have HFX := Lib.hid hfx
      have HRX := Lib.hid hrx
      have HOX := Lib.hid (hox v)
      clear hRB hrb hfx hrx hox
      go_wp2_with fail
      refine HRB.out.mono ?_
      rintro e w7 ⟨a7, c7, rfl, hs7, hb7, -⟩
      have HB7 := Lib.hid (HBX.out.on (hb7.mono HBX.out.size))
      have hBY := Bytes_own u _ _ _ _ _ hs7
      rw [HFX.out] at hBY
      have HBY := Lib.hid hBY
      clear hb7 hs7 hBY HRB C1 C2
      go_wp2_with fail
      refine HBY.out.mono ?_
      rintro e w8 ⟨v8, rfl, ho8, hb8⟩
      obtain ⟨a8, c8, rfl, hs8⟩ := Sl.of_own ho8
      have HB8 := Lib.hid (HB7.out.on (hb8.mono HB7.out.size))
      have HS8 := Lib.hid hs8
      have hRY := Reply_any u _ _ _ _ _ hs8
      rw [HRX.out] at hRY
      have HRY := Lib.hid hRY
      clear hb8 hs8 ho8 hRY HBY HB7
      go_wp2_with fail
      refine HRY.out.mono ?_
      rintro e w9 ⟨pw, cpw, pb, cpb, rfl, hP, hb9, -⟩
      have HB9 := Lib.hid (HB8.out.on (hb9.mono HB8.out.size))
      have HS9 := Lib.hid ((HS8.out.below hb9 (Nat.le_refl _)).more hb9.size)
      have HP := Lib.hid hP
      clear hb9 HRY HB8 HS8 hP
      simp only [Option.getD_some] at *
      by_cases huv : u = v
      · subst huv
        have te : ((u.toNat : Int) == (u.toNat : Int)) = true := by simp
        go_wp2_with fail
        have HZ := Lib.hid (show (w9.alloc (.cells #[.int .u8 (f2.toNat : Int), .int .u8 (x2.toNat : Int), .slice pb ds.length cpb, .slice pw vs.length cpw, .int .u16 (a2.toNat : Int), .int .u16 (m2.toNat : Int)] 48)).heap.size = w9.heap.size + 1 by simp)
        have HRW := Lib.hid (heap_alloc_new w9 (.cells #[.int .u8 (f2.toNat : Int), .int .u8 (x2.toNat : Int), .slice pb ds.length cpb, .slice pw vs.length cpw, .int .u16 (a2.toNat : Int), .int .u16 (m2.toNat : Int)] 48))
        have HBA := Lib.hid ((Below.refl w9.heap.size w9).alloc (Nat.le_refl _) (.cells #[.int .u8 (f2.toNat : Int), .int .u8 (x2.toNat : Int), .slice pb ds.length cpb, .slice pw vs.length cpw, .int .u16 (a2.toNat : Int), .int .u16 (m2.toNat : Int)] 48))
        generalize w9.alloc (.cells #[.int .u8 (f2.toNat : Int), .int .u8 (x2.toNat : Int), .slice pb ds.length cpb, .slice pw vs.length cpw, .int .u16 (a2.toNat : Int), .int .u16 (m2.toNat : Int)] 48) = W9 at *
        have hRY := Reply_any u _ _ _ _ W9 ((HS9.out.below HBA.out (Nat.le_refl _)).more HBA.out.size)
        rw [HRX.out] at hRY
        have HRY := Lib.hid hRY
        clear hRY
        refine HRY.out.mono ?_
        rintro e w10 ⟨qw, cqw, qb, cqb, rfl, -, hb10, -⟩
        have HW10 := Lib.hid (HB9.out.on ((HBA.out.trans (hb10.mono HBA.out.size)).mono HB9.out.size))
        have HRW10 := Lib.hid ((hb10.block w9.heap.size (by have := HZ.out; omega)).trans HRW.out)
        have HP10 := Lib.hid ((HP.out.up HBA.out (Nat.le_refl _)).up hb10 (Nat.le_refl _))
        have HL9 : Hid (w9.heap.size < w10.heap.size) := Lib.hid (by have := hb10.size; have := HZ.out; omega)
        clear hb10 HRY HZ HRW HBA HS9 HP HB9
        simp only [Option.getD_some, Option.getD_none, zeroR]
        have E2 := fun (x : Obj) (o : Nat) => (World.cell?_alloc_lt w10 x ⟨w.heap.size + 1, o, none⟩ (by have := HW10.out.size; show w.heap.size + 1 < _; omega)).trans (HW10.out.two o)
        have E1 := fun (x : Obj) (o : Nat) => (World.cell?_alloc_lt w10 x ⟨w9.heap.size, o, none⟩ HL9.out).trans (cell_of_row _ _ o _ _ _ HRW10.out)
        have HRA := Lib.hid (HR.out.below HW10.out.below)
        go_wp2_with fail
        refine (RSame_at _ _ ⟨f2, x2, ds, vs, a2, m2⟩ ⟨f2, x2, ds, vs, a2, m2⟩ pw cpw pb cpb ow dw ob db _ rfl rfl (HP10.out.below ((Below.refl _ _).alloc (Nat.le_refl _) _)) (HRA.out.below ((Below.refl _ _).alloc (Nat.le_refl _) _))).mono ?_
        rw [show decide ((⟨f2, x2, ds, vs, a2, m2⟩ : Rep) = ⟨f2, x2, ds, vs, a2, m2⟩) = true by simp]
        rintro e w11 ⟨rfl, hb11⟩
        have HB11 := Lib.hid (says_on HW10.out.below hb11)
        clear hb11 E1 E2
        go_wp2_with fail
        refine (qawake_any _).mono ?_
        rintro e w12 ⟨rfl, hb12⟩
        have HB12 := Lib.hid (HB11.out.trans (hb12.mono HB11.out.size))
        go_wp2_with fail
        go_ret
        exact Says.mk HB12.out
      · have te : ((u.toNat : Int) == (v.toNat : Int)) = false := ne8 huv
        go_wp2_with fail
        have HZ := Lib.hid (show (w9.alloc (.cells #[.int .u8 (f2.toNat : Int), .int .u8 (x2.toNat : Int), .slice pb ds.length cpb, .slice pw vs.length cpw, .int .u16 (a2.toNat : Int), .int .u16 (m2.toNat : Int)] 48)).heap.size = w9.heap.size + 1 by simp)
        have HRW := Lib.hid (heap_alloc_new w9 (.cells #[.int .u8 (f2.toNat : Int), .int .u8 (x2.toNat : Int), .slice pb ds.length cpb, .slice pw vs.length cpw, .int .u16 (a2.toNat : Int), .int .u16 (m2.toNat : Int)] 48))
        have HBA := Lib.hid ((Below.refl w9.heap.size w9).alloc (Nat.le_refl _) (.cells #[.int .u8 (f2.toNat : Int), .int .u8 (x2.toNat : Int), .slice pb ds.length cpb, .slice pw vs.length cpw, .int .u16 (a2.toNat : Int), .int .u16 (m2.toNat : Int)] 48))
        generalize w9.alloc (.cells #[.int .u8 (f2.toNat : Int), .int .u8 (x2.toNat : Int), .slice pb ds.length cpb, .slice pw vs.length cpw, .int .u16 (a2.toNat : Int), .int .u16 (m2.toNat : Int)] 48) = W9 at *
        have hRY := Reply_any v _ _ _ _ W9 ((HS9.out.below HBA.out (Nat.le_refl _)).more HBA.out.size)
        rw [HOX.out (fun e => huv e.symm)] at hRY
        have HRY := Lib.hid hRY
        clear hRY huv
        refine HRY.out.mono ?_
        rintro e w10 ⟨qw, cqw, qb, cqb, rfl, -, hb10, -⟩
        have HW10 := Lib.hid (HB9.out.on ((HBA.out.trans (hb10.mono HBA.out.size)).mono HB9.out.size))
        have HRW10 := Lib.hid ((hb10.block w9.heap.size (by have := HZ.out; omega)).trans HRW.out)
        have HP10 := Lib.hid ((HP.out.up HBA.out (Nat.le_refl _)).up hb10 (Nat.le_refl _))
        have HL9 : Hid (w9.heap.size < w10.heap.size) := Lib.hid (by have := hb10.size; have := HZ.out; omega)
        clear hb10 HRY HZ HRW HBA HS9 HP HB9
        simp only [Option.getD_some, Option.getD_none, zeroR]
        have E2 := fun (x : Obj) (o : Nat) => (World.cell?_alloc_lt w10 x ⟨w.heap.size + 1, o, none⟩ (by have := HW10.out.size; show w.heap.size + 1 < _; omega)).trans (HW10.out.two o)
        have E1 := fun (x : Obj) (o : Nat) => (World.cell?_alloc_lt w10 x ⟨w9.heap.size, o, none⟩ HL9.out).trans (cell_of_row _ _ o _ _ _ HRW10.out)
        have HRA := Lib.hid (HR.out.below HW10.out.below)
        go_wp2_with fail
        refine (RSame_at _ _ ⟨f2, x2, ds, vs, a2, m2⟩ ⟨f2, x2, ds, vs, a2, m2⟩ pw cpw pb cpb ow dw ob db _ rfl rfl (HP10.out.below ((Below.refl _ _).alloc (Nat.le_refl _) _)) (HRA.out.below ((Below.refl _ _).alloc (Nat.le_refl _) _))).mono ?_
        rw [show decide ((⟨f2, x2, ds, vs, a2, m2⟩ : Rep) = ⟨f2, x2, ds, vs, a2, m2⟩) = true by simp]
        rintro e w11 ⟨rfl, hb11⟩
        have HB11 := Lib.hid (says_on HW10.out.below hb11)
        clear hb11 E1 E2
        go_wp2_with fail
        refine (qawake_any _).mono ?_
        rintro e w12 ⟨rfl, hb12⟩
        have HB12 := Lib.hid (HB11.out.trans (hb12.mono HB11.out.size))
        go_wp2_with fail
        go_ret
        exact Says.mk HB12.out
theorem RtuTalks_walk (a : Req) (aw : Option Addr) (cw : Nat) (ab : Option Addr) (cb : Nat) (r : Rep) (ow : Option Addr) (dw : Nat) (ob : Option Addr) (db : Nat) (x2 x3 : Nat) (w : World) (hA : AskAt w w.heap.size a aw cw ab cb) (hR : RepAt w w.heap.size r ow dw ob db) (h2 : x2 < 256) (h3 : x3 < 256) :
    Calls Try.prog 10 #[askV a aw cw ab cb, repV r ow dw ob db, .int .u8 (x2 : Int), .int .u8 (x3 : Int)] w (Says (.bool true) w) := by
  have h := RtuTalks_u a aw cw ab cb r ow dw ob db (UInt8.ofNat x2) (UInt8.ofNat x3) w hA hR
  rwa [show b8 (UInt8.ofNat x2) = .int .u8 (x2 : Int) by unfold b8; congr 1; simp; omega, show b8 (UInt8.ofNat x3) = .int .u8 (x3 : Int) by unfold b8; congr 1; simp; omega] at h
end Go.Proofs.Ytiecncnmmecjcaa.RtuW
