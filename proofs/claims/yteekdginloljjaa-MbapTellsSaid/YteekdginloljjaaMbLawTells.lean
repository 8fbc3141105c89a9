/- Frames' bytes, and which frames bytes are, and begin with, beside the document's own answer. -/
import Derived.Test.YteekdginloljjaaMbRefCut
import Derived.Test.YteekdginloljjaaMbLawBack
open Go.RowKit
namespace Go.Proofs.Yteekdginloljjaa.MbW
open MbM Mem

/-- The frame that bytes are; nought if none. -/
def parseX (b : List UInt8) : Fr := (parseN b).getD ⟨0, 0, []⟩
def parseE (b : List UInt8) : Int := if (parseN b).isSome then 0 else 10
def ParsedTo (X : Fr) (k : Int) (w : World) (en : Ending) (w' : World) : Prop :=
  ∃ ap cp, en = .returned (.tuple #[frV X ap cp, .int .i64 k]) ∧ Sl b8 w' w'.heap.size ap X.pdu.length cp X.pdu ∧ Below w.heap.size w w'
theorem parsed_no {b : List UInt8} (h : parseN b = none) {w w' : World} {en : Ending} (hp : NoParse w en w') : ParsedTo (parseX b) (parseE b) w en w' := by
  obtain ⟨rfl, hb⟩ := hp
  unfold parseX parseE
  rw [h]
  exact ⟨none, 0, rfl, Sl.none_, hb⟩
theorem parsed_yes {b : List UInt8} {x : Fr} (h : parseN b = some x) {w w' : World} {en : Ending} (hp : Parses x w en w') : ParsedTo (parseX b) (parseE b) w en w' := by
  obtain ⟨ap, cp, rfl, hs, hb, _⟩ := hp
  unfold parseX parseE
  rw [h]
  exact ⟨ap, cp, rfl, hs, hb⟩
theorem Parse_to (a : Option Addr) (n c : Nat) (b : List UInt8) (w : World) (hl : Sl b8 w w.heap.size a n c b) : Calls Try.prog 12 #[.slice a n c] w (ParsedTo (parseX b) (parseE b) w) := by
  cases h : parseN b with
  | none => exact (Parse_no a n c b w hl h).mono fun _ _ hp => parsed_no h hp
  | some x => exact (Parse_yes a n c b w hl h).mono fun _ _ hp => parsed_yes h hp
theorem rParse_to (a : Option Addr) (n c : Nat) (b : List UInt8) (w : World) (hl : Sl b8 w w.heap.size a n c b) : Calls Try.prog 13 #[.slice a n c] w (ParsedTo (parseX b) (parseE b) w) := by
  cases h : parseN b with
  | none => exact (rParse_no a n c b w hl h).mono fun _ _ hp => parsed_no h hp
  | some x => exact (rParse_yes a n c b w hl h).mono fun _ _ hp => parsed_yes h hp
theorem _root_.Go.Proofs.Yteekdginloljjaa.Mem.Sl.on {α : Type} {f : α → Value} {w w' : World} {n c : Nat} {a : Option Addr} {l : List α} (h : Sl f w w.heap.size a n c l) (hb : Below w.heap.size w w') : Sl f w' w'.heap.size a n c l := (h.below hb (Nat.le_refl _)).more hb.size
theorem FrsAt.on {w w' : World} {n c : Nat} {a : Option Addr} {es : List Fm} (h : FrsAt w w.heap.size a n c es) (hb : Below w.heap.size w w') : FrsAt w' w'.heap.size a n c es := (h.below hb (Nat.le_refl _)).more hb.size
theorem below_al (w : World) (o : Obj) : Below w.heap.size w (w.alloc o) := (Below.refl _ _).alloc (Nat.le_refl _) o
theorem row_on {w w' : World} {g : Nat} {o : Obj} (h : w.heap[g]? = some o) (hb : Below w.heap.size w w') : w'.heap[g]? = some o := (hb.block g (Array.getElem?_eq_some_iff.1 h).1).trans h
theorem two_rows {w : World} {X : Fr} {a1 a2 : Option Addr} {c1 c2 : Nat} (h1 : Sl b8 w w.heap.size a1 X.pdu.length c1 X.pdu) (h2 : Sl b8 w w.heap.size a2 X.pdu.length c2 X.pdu) :
    Calls Try.prog 16 #[.slice (some ⟨w.heap.size, 0, none⟩) 1 1, .slice (some ⟨w.heap.size + 1, 0, none⟩) 1 1] ((w.alloc (.cells (frC X a1 c1) 25)).alloc (.cells (frC X a2 c2) 25)) (SaysD (.bool true) ((w.alloc (.cells (frC X a1 c1) 25)).alloc (.cells (frC X a2 c2) 25))) := by
  have f1 := FrsAt.new h1
  have f2 := FrsAt.new (w := w.alloc (.cells (frC X a1 c1) 25)) (Sl.on h2 (below_al w (.cells (frC X a1 c1) 25)))
  have f1' := f1.on (below_al _ (.cells (frC X a2 c2) 25))
  simp only [World.size_alloc] at f1' f2
  exact same_yes _ _ _ _ _ _ _ _ _ _ _ f1' f2 rfl
set_option maxRecDepth 100000 in
set_option maxHeartbeats 4000000 in
theorem MbapTells_walk (x : Fr) (ax : Option Addr) (cx : Nat) (ab : Option Addr) (nb cb : Nat) (b : List UInt8) (w : World) (hx : Sl b8 w w.heap.size ax x.pdu.length cx x.pdu) (hb : Sl b8 w w.heap.size ab nb cb b) :
    Calls Try.prog 3 #[frV x ax cx, .slice ab nb cb] w (Says (.bool true) w) := by
  have hnx := len_le hx
  have hnb := len_le hb
  have K0 := Lib.hid (KeepX.new hx)
  by_cases h300 : 300 < x.pdu.length
  · have t1 : decide (300 < (x.pdu.length : Int)) = true := by simp; omega
    have t1' : decide (300 < x.pdu.length) = true := by simp; omega
    have HAW := Lib.hid (awake_any (w.alloc (.cells (frC x ax cx) 25)))
    obtain ⟨tx, un, p⟩ := x
    simp only at *
    clear h300 hx hb
    go_enter Try.func3, Try.ntmps3
    go_wp2_with fail
    refine HAW.out.mono ?_
    rintro e w1 ⟨rfl, hb1⟩
    go_wp2_with fail
    go_ret
    exact ⟨ret_bool rfl, (K0.out.on hb1).below⟩
  have t1 : decide (300 < (x.pdu.length : Int)) = false := by simp; omega
  by_cases h2000 : 2000 < nb
  · have t2 : decide (2000 < (nb : Int)) = true := by simp; omega
    have HAW := Lib.hid (awake_any (w.alloc (.cells (frC x ax cx) 25)))
    obtain ⟨tx, un, p⟩ := x
    simp only at *
    clear h300 h2000 hx hb
    go_enter Try.func3, Try.ntmps3
    go_wp2_with fail
    refine HAW.out.mono ?_
    rintro e w1 ⟨rfl, hb1⟩
    go_wp2_with fail
    go_ret
    exact ⟨ret_bool rfl, (K0.out.on hb1).below⟩
  have t2 : decide (2000 < (nb : Int)) = false := by simp; omega
  have hnb2 : nb ≤ 1000000 := by omega
  have HBB := Lib.hid hb
  obtain ⟨mB, sB, hcuts⟩ := cuts_all b
  have HRP : Hid (∀ W : World, Sl b8 W W.heap.size ab nb cb b → Calls Try.prog 13 #[.slice ab nb cb] W (ParsedTo (parseX b) (parseE b) W)) := Lib.hid (fun W h => rParse_to ab nb cb b W h)
  have HRC : Hid (∀ W : World, Sl b8 W W.heap.size ab nb cb b → Calls Try.prog 15 #[.slice ab nb cb] W (CutIs mB ((b.length : Int) - (sB.length : Int)) (if begunB sB = true then (0 : Int) else 10) W)) := Lib.hid (fun W h => rCut_at h hnb2 hcuts rfl rfl)
  have hx3 : x.pdu.length ≤ 300 := by omega
  clear hx hb h300 h2000
  by_cases hR : Right x
  · have HPK := Lib.hid (Pack_yes x ax cx (w.alloc (.cells (frC x ax cx) 25)) (K0.out.pdu.more (Nat.le_of_lt K0.out.lt)) hR)
    have HRT := fun W (hk : KeepX x ax cx w W) => Lib.hid (rRight_any x ax cx W (hk.pdu.more (Nat.le_of_lt hk.lt)))
    have HRK := fun W (hk : KeepX x ax cx w W) => Lib.hid (rPack_any x ax cx W (hk.pdu.more (Nat.le_of_lt hk.lt)) hR)
    rw [decide_eq_true hR] at HRT
    have HPL := Lib.hid (packN_length x)
    generalize packN x = pk at *
    obtain ⟨tx, un, p⟩ := x
    simp only at *
    clear hR
    go_enter Try.func3, Try.ntmps3
    go_wp2_with fail
    refine HPK.out.mono ?_
    rintro e w1 ⟨a1, c1, rfl, hs1, hb1, -⟩
    have K1 := Lib.hid (K0.out.on hb1)
    have HS1 := Lib.hid hs1
    have hd0 := K1.out.cell0
    have hd1 := K1.out.cell1
    have hd2 := K1.out.cell2
    simp only at hd0 hd1 hd2
    clear hs1 hb1 HPK
    go_wp2_with fail
    refine (HRT w1 K1.out).out.mono ?_
    rintro e w2 ⟨rfl, hb2⟩
    have K2 := Lib.hid (K1.out.on hb2)
    have HS2 := Lib.hid (HS1.out.on hb2)
    have hf0 := K2.out.cell0
    have hf1 := K2.out.cell1
    have hf2 := K2.out.cell2
    simp only at hf0 hf1 hf2
    clear hb2 HRT K1 HS1 hd0 hd1 hd2
    go_wp2_with fail
    refine (HRK w2 K2.out).out.mono ?_
    rintro e w3 ⟨a3, c3, rfl, hs3, hb3⟩
    have K3 := Lib.hid (K2.out.on hb3)
    have HSM := Lib.hid (Same_any _ _ _ _ _ _ pk pk _ _ w3 (HS2.out.on hb3) hs3)
    rw [decide_eq_true rfl] at HSM
    clear hs3 hb3 HRK K2 HS2 hf0 hf1 hf2
    go_wp2_with fail
    refine HSM.out.mono ?_
    rintro e w4 ⟨rfl, q4, rfl⟩
    have HW5 := Lib.hid (K3.out.on (below_drawn (Below.refl _ _) q4)).below
    clear K3 HSM
    generalize w3.drewN q4 = w5 at *
    have HPT := Lib.hid (Parse_to ab nb cb b w5 (HBB.out.on HW5.out))
    have HB5 := Lib.hid (HBB.out.on HW5.out)
    have HCC := Lib.hid hcuts
    generalize parseX b = X at *
    generalize parseE b = ee at *
    obtain ⟨tX, uX, pX⟩ := X
    go_wp2_with fail
    refine HPT.out.mono ?_
    rintro e w6 ⟨a6, c6, rfl, hs6, hb6⟩
    have HW6 := Lib.hid (hb6.trans ((below_al w6 (.cells #[.int .u16 (tX.toNat : Int), b8 uX, .slice a6 pX.length c6] 25)).mono hb6.size))
    have HS6 := Lib.hid (hs6.on (below_al w6 (.cells #[.int .u16 (tX.toNat : Int), b8 uX, .slice a6 pX.length c6] 25)))
    have HR6 := Lib.hid (heap_alloc_new w6 (.cells #[.int .u16 (tX.toNat : Int), b8 uX, .slice a6 pX.length c6] 25))
    have HQ := Lib.hid (HRP.out (w6.alloc (.cells #[.int .u16 (tX.toNat : Int), b8 uX, .slice a6 pX.length c6] 25)) (HB5.out.on HW6.out))
    clear hs6 hb6 HPT
    go_wp2_with fail
    refine HQ.out.mono ?_
    rintro e w7 ⟨a7, c7, rfl, hs7, hb7⟩
    have hb7' := hb7.trans ((below_al w7 (.cells #[.int .u16 (tX.toNat : Int), b8 uX, .slice a7 pX.length c7] 25)).mono hb7.size)
    have HW7 := Lib.hid (HW6.out.trans (hb7'.mono HW6.out.size))
    have HS6b := Lib.hid (HS6.out.on hb7')
    have HS7 := Lib.hid (hs7.on (below_al w7 (.cells #[.int .u16 (tX.toNat : Int), b8 uX, .slice a7 pX.length c7] 25)))
    have HR6b := Lib.hid (row_on HR6.out hb7')
    have HR7 := Lib.hid (heap_alloc_new w7 (.cells #[.int .u16 (tX.toNat : Int), b8 uX, .slice a7 pX.length c7] 25))
    have HCT := Lib.hid (Cut_at (HB5.out.on HW7.out) hnb2 hcuts rfl rfl)
    clear hs7 hb7 hb7' HQ HW6 HS6 HR6
    generalize (b.length : Int) - (sB.length : Int) = kB at *
    generalize (if begunB sB = true then (0 : Int) else 10) = eB at *
    go_wp2_with fail
    refine HCT.out.mono ?_
    rintro e w8 ⟨a8, c8, es8, rfl, he8, hF8, hb8⟩
    have HW8 := Lib.hid (HW7.out.trans (hb8.mono HW7.out.size))
    have HCT2 := Lib.hid (HRC.out w8 (HB5.out.on HW8.out))
    have HS6c := Lib.hid (HS6b.out.on hb8)
    have HS7c := Lib.hid (HS7.out.on hb8)
    have HR6c := Lib.hid (row_on HR6b.out hb8)
    have HR7c := Lib.hid (row_on HR7.out hb8)
    have HF8 := Lib.hid (And.intro he8 hF8)
    clear HCT hb8 he8 hF8 HW7 HS6b HS7 HR6b HR7
    go_wp2_with fail
    refine HCT2.out.mono ?_
    rintro e w9 ⟨a9, c9, es9, rfl, he9, hF9, hb9⟩
    have HW9 := Lib.hid (HW8.out.trans (hb9.mono HW8.out.size))
    have HS6d := Lib.hid (HS6c.out.on hb9)
    have HS7d := Lib.hid (HS7c.out.on hb9)
    have HR6d := Lib.hid (row_on HR6c.out hb9)
    have HR7d := Lib.hid (row_on HR7c.out hb9)
    have hr60 := cell_of_row _ _ 0 _ _ _ HR6d.out
    have hr61 := cell_of_row _ _ 1 _ _ _ HR6d.out
    have hr62 := cell_of_row _ _ 2 _ _ _ HR6d.out
    have hz7 := (Array.getElem?_eq_some_iff.1 HR7d.out).1
    have hr7 := row_on HR7d.out (below_al w9 (.cells #[.int .u16 (tX.toNat : Int), b8 uX, .slice a6 pX.length c6] 25))
    have hr70 := cell_of_row _ _ 0 _ _ _ hr7
    have hr71 := cell_of_row _ _ 1 _ _ _ hr7
    have hr72 := cell_of_row _ _ 2 _ _ _ hr7
    have HSY := Lib.hid (two_rows (X := ⟨tX, uX, pX⟩) HS6d.out HS7d.out)
    have HF9 := Lib.hid (same_yes _ _ _ _ _ _ _ _ _ _ w9 (HF8.out.2.on hb9) hF9 (HF8.out.1.trans he9.symm))
    have hb10 := (below_al w9 (.cells #[.int .u16 (tX.toNat : Int), b8 uX, .slice a6 pX.length c6] 25)).trans ((below_al (w9.alloc (.cells #[.int .u16 (tX.toNat : Int), b8 uX, .slice a6 pX.length c6] 25)) (.cells #[.int .u16 (tX.toNat : Int), b8 uX, .slice a7 pX.length c7] 25)).mono (below_al w9 _).size)
    have HF10 := fun q => Lib.hid (same_yes _ _ _ _ _ _ _ _ _ _ (((w9.alloc (.cells #[.int .u16 (tX.toNat : Int), b8 uX, .slice a6 pX.length c6] 25)).alloc (.cells #[.int .u16 (tX.toNat : Int), b8 uX, .slice a7 pX.length c7] 25)).drewN q) ((HF8.out.2.on hb9).on (below_drawn hb10 q)) (hF9.on (below_drawn hb10 q)) (HF8.out.1.trans he9.symm))
    have HW10 := Lib.hid (HW9.out.trans (hb10.mono HW9.out.size))
    clear hb9 he9 hF9 HF8 HF9 HCT2 HW8 HS6c HS7c HR6c HR7c hr7 hb10 HW9
    go_wp2_with fail
    refine HSY.out.mono ?_
    rintro e w10 ⟨rfl, q1, rfl⟩
    go_wp2_with fail
    refine (HF10 q1).out.mono ?_
    rintro e w11 ⟨rfl, q2, rfl⟩
    have HW11 := Lib.hid (below_drawn HW10.out (q1 + q2))
    have HAW := Lib.hid (awake_any (((w9.alloc (.cells #[.int .u16 (tX.toNat : Int), b8 uX, .slice a6 pX.length c6] 25)).alloc (.cells #[.int .u16 (tX.toNat : Int), b8 uX, .slice a7 pX.length c7] 25)).drewN (q1 + q2)))
    go_wp2_with fail
    refine HAW.out.mono ?_
    rintro e w12 ⟨rfl, hb12⟩
    have HW12 := Lib.hid (HW5.out.trans ((HW11.out.trans (hb12.mono HW11.out.size)).mono HW5.out.size))
    clear hb12
    go_wp2_with fail
    go_ret
    exact ⟨ret_bool rfl, HW12.out⟩
  · have HPK := Lib.hid (Pack_no x ax cx (w.alloc (.cells (frC x ax cx) 25)) (K0.out.pdu.more (Nat.le_of_lt K0.out.lt)) hR)
    have HRT := fun W (hk : KeepX x ax cx w W) => Lib.hid (rRight_any x ax cx W (hk.pdu.more (Nat.le_of_lt hk.lt)))
    rw [decide_eq_false hR] at HRT
    obtain ⟨tx, un, p⟩ := x
    simp only at *
    clear hR
    go_enter Try.func3, Try.ntmps3
    go_wp2_with fail
    refine HPK.out.mono ?_
    rintro e w1 ⟨rfl, hb1⟩
    have K1 := Lib.hid (K0.out.on hb1)
    have hd0 := K1.out.cell0
    have hd1 := K1.out.cell1
    have hd2 := K1.out.cell2
    simp only at hd0 hd1 hd2
    clear hb1 HPK
    go_wp2_with fail
    refine (HRT w1 K1.out).out.mono ?_
    rintro e w5 ⟨rfl, hb2⟩
    have HW5 := Lib.hid (K1.out.on hb2).below
    clear hb2 HRT K1 hd0 hd1 hd2
    have HPT := Lib.hid (Parse_to ab nb cb b w5 (HBB.out.on HW5.out))
    have HB5 := Lib.hid (HBB.out.on HW5.out)
    have HCC := Lib.hid hcuts
    generalize parseX b = X at *
    generalize parseE b = ee at *
    obtain ⟨tX, uX, pX⟩ := X
    go_wp2_with fail
    refine HPT.out.mono ?_
    rintro e w6 ⟨a6, c6, rfl, hs6, hb6⟩
    have HW6 := Lib.hid (hb6.trans ((below_al w6 (.cells #[.int .u16 (tX.toNat : Int), b8 uX, .slice a6 pX.length c6] 25)).mono hb6.size))
    have HS6 := Lib.hid (hs6.on (below_al w6 (.cells #[.int .u16 (tX.toNat : Int), b8 uX, .slice a6 pX.length c6] 25)))
    have HR6 := Lib.hid (heap_alloc_new w6 (.cells #[.int .u16 (tX.toNat : Int), b8 uX, .slice a6 pX.length c6] 25))
    have HQ := Lib.hid (HRP.out (w6.alloc (.cells #[.int .u16 (tX.toNat : Int), b8 uX, .slice a6 pX.length c6] 25)) (HB5.out.on HW6.out))
    clear hs6 hb6 HPT
    go_wp2_with fail
    refine HQ.out.mono ?_
    rintro e w7 ⟨a7, c7, rfl, hs7, hb7⟩
    have hb7' := hb7.trans ((below_al w7 (.cells #[.int .u16 (tX.toNat : Int), b8 uX, .slice a7 pX.length c7] 25)).mono hb7.size)
    have HW7 := Lib.hid (HW6.out.trans (hb7'.mono HW6.out.size))
    have HS6b := Lib.hid (HS6.out.on hb7')
    have HS7 := Lib.hid (hs7.on (below_al w7 (.cells #[.int .u16 (tX.toNat : Int), b8 uX, .slice a7 pX.length c7] 25)))
    have HR6b := Lib.hid (row_on HR6.out hb7')
    have HR7 := Lib.hid (heap_alloc_new w7 (.cells #[.int .u16 (tX.toNat : Int), b8 uX, .slice a7 pX.length c7] 25))
    have HCT := Lib.hid (Cut_at (HB5.out.on HW7.out) hnb2 hcuts rfl rfl)
    clear hs7 hb7 hb7' HQ HW6 HS6 HR6
    generalize (b.length : Int) - (sB.length : Int) = kB at *
    generalize (if begunB sB = true then (0 : Int) else 10) = eB at *
    go_wp2_with fail
    refine HCT.out.mono ?_
    rintro e w8 ⟨a8, c8, es8, rfl, he8, hF8, hb8⟩
    have HW8 := Lib.hid (HW7.out.trans (hb8.mono HW7.out.size))
    have HCT2 := Lib.hid (HRC.out w8 (HB5.out.on HW8.out))
    have HS6c := Lib.hid (HS6b.out.on hb8)
    have HS7c := Lib.hid (HS7.out.on hb8)
    have HR6c := Lib.hid (row_on HR6b.out hb8)
    have HR7c := Lib.hid (row_on HR7.out hb8)
    have HF8 := Lib.hid (And.intro he8 hF8)
    clear HCT hb8 he8 hF8 HW7 HS6b HS7 HR6b HR7
    go_wp2_with fail
    refine HCT2.out.mono ?_
    rintro e w9 ⟨a9, c9, es9, rfl, he9, hF9, hb9⟩
    have HW9 := Lib.hid (HW8.out.trans (hb9.mono HW8.out.size))
    have HS6d := Lib.hid (HS6c.out.on hb9)
    have HS7d := Lib.hid (HS7c.out.on hb9)
    have HR6d := Lib.hid (row_on HR6c.out hb9)
    have HR7d := Lib.hid (row_on HR7c.out hb9)
    have hr60 := cell_of_row _ _ 0 _ _ _ HR6d.out
    have hr61 := cell_of_row _ _ 1 _ _ _ HR6d.out
    have hr62 := cell_of_row _ _ 2 _ _ _ HR6d.out
    have hz7 := (Array.getElem?_eq_some_iff.1 HR7d.out).1
    have hr7 := row_on HR7d.out (below_al w9 (.cells #[.int .u16 (tX.toNat : Int), b8 uX, .slice a6 pX.length c6] 25))
    have hr70 := cell_of_row _ _ 0 _ _ _ hr7
    have hr71 := cell_of_row _ _ 1 _ _ _ hr7
    have hr72 := cell_of_row _ _ 2 _ _ _ hr7
    have HSY := Lib.hid (two_rows (X := ⟨tX, uX, pX⟩) HS6d.out HS7d.out)
    have HF9 := Lib.hid (same_yes _ _ _ _ _ _ _ _ _ _ w9 (HF8.out.2.on hb9) hF9 (HF8.out.1.trans he9.symm))
    have hb10 := (below_al w9 (.cells #[.int .u16 (tX.toNat : Int), b8 uX, .slice a6 pX.length c6] 25)).trans ((below_al (w9.alloc (.cells #[.int .u16 (tX.toNat : Int), b8 uX, .slice a6 pX.length c6] 25)) (.cells #[.int .u16 (tX.toNat : Int), b8 uX, .slice a7 pX.length c7] 25)).mono (below_al w9 _).size)
    have HF10 := fun q => Lib.hid (same_yes _ _ _ _ _ _ _ _ _ _ (((w9.alloc (.cells #[.int .u16 (tX.toNat : Int), b8 uX, .slice a6 pX.length c6] 25)).alloc (.cells #[.int .u16 (tX.toNat : Int), b8 uX, .slice a7 pX.length c7] 25)).drewN q) ((HF8.out.2.on hb9).on (below_drawn hb10 q)) (hF9.on (below_drawn hb10 q)) (HF8.out.1.trans he9.symm))
    have HW10 := Lib.hid (HW9.out.trans (hb10.mono HW9.out.size))
    clear hb9 he9 hF9 HF8 HF9 HCT2 HW8 HS6c HS7c HR6c HR7c hr7 hb10 HW9
    go_wp2_with fail
    refine HSY.out.mono ?_
    rintro e w10 ⟨rfl, q1, rfl⟩
    go_wp2_with fail
    refine (HF10 q1).out.mono ?_
    rintro e w11 ⟨rfl, q2, rfl⟩
    have HW11 := Lib.hid (below_drawn HW10.out (q1 + q2))
    have HAW := Lib.hid (awake_any (((w9.alloc (.cells #[.int .u16 (tX.toNat : Int), b8 uX, .slice a6 pX.length c6] 25)).alloc (.cells #[.int .u16 (tX.toNat : Int), b8 uX, .slice a7 pX.length c7] 25)).drewN (q1 + q2)))
    go_wp2_with fail
    refine HAW.out.mono ?_
    rintro e w12 ⟨rfl, hb12⟩
    have HW12 := Lib.hid (HW5.out.trans ((HW11.out.trans (hb12.mono HW11.out.size)).mono HW5.out.size))
    clear hb12
    go_wp2_with fail
    go_ret
    exact ⟨ret_bool rfl, HW12.out⟩
end Go.Proofs.Yteekdginloljjaa.MbW
