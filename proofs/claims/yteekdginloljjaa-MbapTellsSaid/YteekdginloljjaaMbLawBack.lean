/- What is packed is told, and what is told is packed. -/
import Derived.Test.YteekdginloljjaaMbAwake
open Go.RowKit
namespace Go.Proofs.Yteekdginloljjaa.MbW
open MbM Mem

/-- A frame that came in, in its box. -/
structure KeepX (x : Fr) (a : Option Addr) (c : Nat) (w W : World) : Prop where
  row : W.heap[w.heap.size]? = some (.cells (frC x a c) 25 (0, 0))
  pdu : Sl b8 W w.heap.size a x.pdu.length c x.pdu
  below : Below w.heap.size w W
section
variable {x : Fr} {a : Option Addr} {c : Nat} {w W W' : World}
theorem KeepX.lt (h : KeepX x a c w W) : w.heap.size < W.heap.size := (Array.getElem?_eq_some_iff.1 h.row).1
theorem KeepX.on (h : KeepX x a c w W) (hb : Below W.heap.size W W') : KeepX x a c w W' :=
  ⟨(hb.block _ h.lt).trans h.row, h.pdu.below hb (Nat.le_of_lt h.lt), h.below.trans (hb.mono (Nat.le_of_lt h.lt))⟩
theorem KeepX.alloc (h : KeepX x a c w W) (o : Obj) : KeepX x a c w (W.alloc o) := h.on ((Below.refl _ _).alloc (Nat.le_refl _) o)
theorem KeepX.new (hp : Sl b8 w w.heap.size a x.pdu.length c x.pdu) : KeepX x a c w (w.alloc (.cells (frC x a c) 25)) :=
  ⟨heap_alloc_new w _, hp.alloc (Nat.le_refl _) _, (Below.refl _ _).alloc (Nat.le_refl _) _⟩
theorem KeepX.cell0 (h : KeepX x a c w W) : W.cell? ⟨w.heap.size, 0, none⟩ = some (.int .u16 (x.tx.toNat : Int)) := cell_of_row _ _ 0 _ _ _ h.row
theorem KeepX.cell1 (h : KeepX x a c w W) : W.cell? ⟨w.heap.size, 1, none⟩ = some (b8 x.unit) := cell_of_row _ _ 1 _ _ _ h.row
theorem KeepX.cell2 (h : KeepX x a c w W) : W.cell? ⟨w.heap.size, 2, none⟩ = some (.slice a x.pdu.length c) := cell_of_row _ _ 2 _ _ _ h.row
end

set_option maxRecDepth 100000 in
set_option maxHeartbeats 4000000 in
theorem MbapBack_walk (x : Fr) (ax : Option Addr) (cx : Nat) (ab : Option Addr) (nb cb : Nat) (b : List UInt8) (w : World) (hx : Sl b8 w w.heap.size ax x.pdu.length cx x.pdu) (hb : Sl b8 w w.heap.size ab nb cb b) :
    Calls Try.prog 5 #[frV x ax cx, .slice ab nb cb] w (Says (.bool true) w) := by
  have hnx := len_le hx
  have hnb := len_le hb
  have K0 := Lib.hid (KeepX.new hx)
  by_cases h300 : 300 < x.pdu.length
  · have t1 : decide (300 < (x.pdu.length : Int)) = true := by simp; omega
    have t1' : decide (300 < x.pdu.length) = true := by simp; omega
    have HAW := Lib.hid (awake_any (w.alloc (.cells (frC x ax cx) 25)))
    obtain ⟨tx, un, p⟩ := x
    simp only at *
    clear h300 hx hb
    go_enter Try.func5, Try.ntmps5
    go_wp2_with fail
    refine HAW.out.mono ?_
    rintro e w1 ⟨rfl, hb1⟩
    go_wp2_with fail
    go_ret
    exact ⟨ret_bool rfl, (K0.out.on hb1).below⟩
  have t1 : decide (300 < (x.pdu.length : Int)) = false := by simp; omega
  by_cases h400 : 400 < nb
  · have t2 : decide (400 < (nb : Int)) = true := by simp; omega
    have HAW := Lib.hid (awake_any (w.alloc (.cells (frC x ax cx) 25)))
    obtain ⟨tx, un, p⟩ := x
    simp only at *
    clear h300 h400 hx hb
    go_enter Try.func5, Try.ntmps5
    go_wp2_with fail
    refine HAW.out.mono ?_
    rintro e w1 ⟨rfl, hb1⟩
    go_wp2_with fail
    go_ret
    exact ⟨ret_bool rfl, (K0.out.on hb1).below⟩
  have t2 : decide (400 < (nb : Int)) = false := by simp; omega
  obtain ⟨i0, hi, hz0, hz1, hz2⟩ := info_parts info8
  have hz2' : i0.bytes = 1 := hz2
  have hbw : Sl b8 (w.alloc (.cells (frC x ax cx) 25)) (w.alloc (.cells (frC x ax cx) 25)).heap.size ab nb cb b := (hb.alloc (Nat.le_refl _) _).more (by simp)
  have hx3 : x.pdu.length ≤ 300 := by omega
  clear hx h300 h400
  cases hpn : parseN b with
  | none =>
    have HPN := Lib.hid (Parse_no ab nb cb b _ hbw hpn)
    clear hpn hbw hb
    obtain ⟨tx, un, p⟩ := x
    simp only at *
    go_enter Try.func5, Try.ntmps5
    go_wp2_with fail
    refine HPN.out.mono ?_
    rintro e w1 ⟨rfl, hb1⟩
    have K := Lib.hid ((K0.out.on hb1).alloc (.cells #[.int .u16 0, .int .u8 0, .slice none 0 0] 25))
    clear HPN hb1 K0
    have hd0 := K.out.cell0
    have hd1 := K.out.cell1
    have hd2 := K.out.cell2
    go_wp2_with fail
    generalize w1.alloc (.cells #[.int .u16 0, .int .u8 0, .slice none 0 0] 25) = w5 at *
    by_cases hR : Right ⟨tx, un, p⟩
    · refine (Pack_yes ⟨tx, un, p⟩ ax cx w5 (K.out.pdu.more (Nat.le_of_lt K.out.lt)) hR).mono ?_
      rintro e w6 ⟨ac, cc, rfl, hsc, hb6, hxc⟩
      have hpl := packN_length ⟨tx, un, p⟩
      simp only at hpl
      have hm1 : 1 ≤ p.length := hR.1
      have hm2 : p.length ≤ 253 := hR.2
      have HP1 := Lib.hid (parse_pack hR)
      have HP2 := Lib.hid (parse_more hR (t := [0]) (by simp))
      have HP3 := Lib.hid (parse_less hR)
      rw [hpl] at hsc HP3 ⊢
      have K6 := Lib.hid (K.out.on hb6)
      have HSC := Lib.hid hsc
      have HPL := Lib.hid hpl
      have u1 : decide ((1 : Int) ≤ (p.length : Int)) = true := by simp; omega
      have u2 : decide ((p.length : Int) ≤ 253) = true := by simp; omega
      have he2 := K6.out.cell2
      simp only at he2
      generalize packN ⟨tx, un, p⟩ = pk at *
      clear K hb6 hxc hsc hpl hd0 hd1 hd2
      go_wp2_with fail
      refine (Parse_yes ac _ cc pk w6 HSC.out HP1.out).mono ?_
      rintro e w7 ⟨a7, c7, rfl, hs7, hb7, hx7⟩
      have K7 := Lib.hid (K6.out.on hb7)
      have HSC7 := Lib.hid ((HSC.out.below hb7 (Nat.le_refl _)).more hb7.size)
      have HS7 := Lib.hid hs7
      have K8 := Lib.hid (K7.out.alloc (.cells #[.int .u16 (tx.toNat : Int), b8 un, .slice a7 p.length c7] 25))
      have hf0 := K8.out.cell0
      have hf1 := K8.out.cell1
      have hf2 := K8.out.cell2
      have K9 := Lib.hid ((K8.out.alloc (.cells #[.int .u16 (tx.toNat : Int), b8 un, .slice ax p.length cx] 25)).alloc (.cells #[.int .u16 (tx.toNat : Int), b8 un, .slice a7 p.length c7] 25))
      have HSC9 := Lib.hid (((HSC7.out.alloc (Nat.le_refl _) (.cells #[.int .u16 (tx.toNat : Int), b8 un, .slice a7 p.length c7] 25)).alloc (by simp) (.cells #[.int .u16 (tx.toNat : Int), b8 un, .slice ax p.length cx] 25)).alloc (by simp; omega) (.cells #[.int .u16 (tx.toNat : Int), b8 un, .slice a7 p.length c7] 25))
      have HSY : Hid (Calls Try.prog 16 #[.slice (some ⟨w7.heap.size + 1, 0, none⟩) 1 1, .slice (some ⟨w7.heap.size + 1 + 1, 0, none⟩) 1 1] (((w7.alloc (.cells #[.int .u16 (tx.toNat : Int), b8 un, .slice a7 p.length c7] 25)).alloc (.cells #[.int .u16 (tx.toNat : Int), b8 un, .slice ax p.length cx] 25)).alloc (.cells #[.int .u16 (tx.toNat : Int), b8 un, .slice a7 p.length c7] 25)) (SaysD (.bool true) (((w7.alloc (.cells #[.int .u16 (tx.toNat : Int), b8 un, .slice a7 p.length c7] 25)).alloc (.cells #[.int .u16 (tx.toNat : Int), b8 un, .slice ax p.length cx] 25)).alloc (.cells #[.int .u16 (tx.toNat : Int), b8 un, .slice a7 p.length c7] 25)))) := by
        have f1 := FrsAt.new (x := ⟨tx, un, p⟩) (K8.out.pdu.more (Nat.le_of_lt K8.out.lt))
        have f2 := FrsAt.new (w := (w7.alloc (.cells #[.int .u16 (tx.toNat : Int), b8 un, .slice a7 p.length c7] 25)).alloc (.cells (frC ⟨tx, un, p⟩ ax cx) 25)) (x := ⟨tx, un, p⟩) (a := a7) (c := c7) ((((HS7.out.alloc (Nat.le_refl _) (.cells #[.int .u16 (tx.toNat : Int), b8 un, .slice a7 p.length c7] 25)).alloc (by simp) (.cells (frC ⟨tx, un, p⟩ ax cx) 25))).more (by simp; omega))
        have f1' := f1.below ((Below.refl _ _).alloc (Nat.le_refl _) (.cells (frC ⟨tx, un, p⟩ a7 c7) 25)) (Nat.le_refl _)
        simp only [World.size_alloc] at f1' f2
        exact same_yes _ _ _ _ _ _ _ _ _ _ _ f1' f2 rfl
      have u3 : ((7 : Int) + (p.length : Int) != 7 + (p.length : Int)) = false := by simp
      have u3' : (((7 + p.length : Nat) : Int) != 7 + (p.length : Int)) = false := by simp
      have hg2 := K9.out.cell2
      simp only at hf0 hf1 hf2 hg2
      clear hb7 hs7 hx7 K6 K7 HSC HSC7 he2
      go_wp2_with fail
      refine HSY.out.mono ?_
      rintro e w9 ⟨rfl, q9, rfl⟩
      have hgd : ((((w7.alloc (.cells #[.int .u16 (tx.toNat : Int), b8 un, .slice a7 p.length c7] 25)).alloc (.cells #[.int .u16 (tx.toNat : Int), b8 un, .slice ax p.length cx] 25)).alloc (.cells #[.int .u16 (tx.toNat : Int), b8 un, .slice a7 p.length c7] 25)).drewN q9).cell? ⟨w.heap.size, 2, none⟩ = some (.slice ax p.length cx) := hg2
      have K10 := Lib.hid (K9.out.on (below_drawn (Below.refl _ _) q9))
      have HSC10 : Hid (Sl b8 ((((w7.alloc (.cells #[.int .u16 (tx.toNat : Int), b8 un, .slice a7 p.length c7] 25)).alloc (.cells #[.int .u16 (tx.toNat : Int), b8 un, .slice ax p.length cx] 25)).alloc (.cells #[.int .u16 (tx.toNat : Int), b8 un, .slice a7 p.length c7] 25)).drewN q9) ((((w7.alloc (.cells #[.int .u16 (tx.toNat : Int), b8 un, .slice a7 p.length c7] 25)).alloc (.cells #[.int .u16 (tx.toNat : Int), b8 un, .slice ax p.length cx] 25)).alloc (.cells #[.int .u16 (tx.toNat : Int), b8 un, .slice a7 p.length c7] 25)).drewN q9).heap.size ac (7 + p.length) cc pk) := Lib.hid ((HSC9.out.drawn q9).more (by simp; omega))
      clear K8 K9 HSC9 HSY HS7 hf0 hf1 hf2 hg2
      generalize (((w7.alloc (.cells #[.int .u16 (tx.toNat : Int), b8 un, .slice a7 p.length c7] 25)).alloc (.cells #[.int .u16 (tx.toNat : Int), b8 un, .slice ax p.length cx] 25)).alloc (.cells #[.int .u16 (tx.toNat : Int), b8 un, .slice a7 p.length c7] 25)).drewN q9 = w10 at *
      go_wp2_with (first
          | (at_builtin; refine wpList_append_sl (f := b8) b8_one rfl (.tmp 93) (.tmp 94) 23 rfl w10.heap.size 5 i0 (.int .u8 0) 1 Try.underlying23 hi hz0 hz1 hz2' rfl (.slice (some ⟨w10.heap.size, 0, none⟩) 0 0) 0 [] rfl (World.ownsRow_made w10 #[] 0 (Nat.le_refl _) (by unfold maxLen; omega) rfl) ac (7 + p.length) cc rfl (HSC10.out.alloc (Nat.le_refl _) _) (by unfold maxLen; omega) (by omega) (by simp) ?_; intro va10 wa10 howna10 hga10; simp only [Nat.zero_add, List.nil_append] at howna10; have HA10 := Lib.hid (((Below.refl w10.heap.size w10).alloc (Nat.le_refl _) (.cells #[] 5)).grown hga10 (by simp) (by simp [Value.ownBlock])); have HO10 := Lib.hid howna10; have hza10 := HA10.out.size; clear howna10 hga10)
          | (at_builtin; refine wpList_append_new rfl (.tmp 95) (.tmp 96) 23 rfl w10.heap.size 5 i0 (.int .u8 0) 1 Try.underlying23 hi hz0 hz1 hz2' rfl va10 _ _ rfl (HO10.out.alloc _) ⟨wa10.heap.size, 0, none⟩ 1 1 (([0] : List UInt8).map b8) rfl rfl (new_cells wa10 (([0] : List UInt8).map b8).toArray _) (fun u hu => by obtain ⟨y, _, rfl⟩ := List.mem_map.1 hu; rfl) (by unfold maxLen; omega) (by omega) (by simp; omega) ?_; intro vb10 wb10 hownb10 hgb10; have HB10 := Lib.hid ((HA10.out.alloc hza10 (.cells (([0] : List UInt8).map b8).toArray 5)).grown hgb10 (by simp; omega) (fun k hk => (HO10.out.lt k hk).1)); obtain ⟨ab10, cb10, rfl, hsb10⟩ := Sl.of_own (l := pk ++ [0]) (f := b8) (by simpa using hownb10); clear hownb10 hgb10))
      refine (Parse_no ab10 _ cb10 (pk ++ [0]) wb10 hsb10 HP2.out).mono ?_
      rintro e w11 ⟨rfl, hb11⟩
      have K11 := Lib.hid ((K10.out.on HB10.out).on hb11)
      have HSC11 := Lib.hid (((HSC10.out.below HB10.out (Nat.le_refl _)).more HB10.out.size).below hb11 (Nat.le_refl _))
      have hz11 := hb11.size
      have HSL := Lib.hid ((((HSC11.out.take_ (k := 7 + p.length - 1) (by omega)).more hz11).alloc (Nat.le_refl _) (.cells #[.int .u16 0, .int .u8 0, .slice none 0 0] 25)).more (show _ ≤ (w11.alloc (.cells #[.int .u16 0, .int .u8 0, .slice none 0 0] 25)).heap.size by simp))
      have K12 := Lib.hid (K11.out.alloc (.cells #[.int .u16 0, .int .u8 0, .slice none 0 0] 25))
      have HPN3 := Lib.hid (Parse_no ac (7 + p.length - 1) cc (pk.take (7 + p.length - 1)) _ HSL.out HP3.out)
      have hcc := HSC11.out.nle
      have hccm : cc ≤ 9223372036854775807 := by have := HSC11.out.cle; unfold maxLen at this; exact this
      clear K10 HSC10 HB10 HO10 HA10 hza10 hsb10 hb11 K11 HSC11 HSL hgd
      go_wp2_with fail
      rw [show 7 + p.length - 1 = 6 + p.length by omega] at HPN3
      refine HPN3.out.mono ?_
      rintro e w12 ⟨rfl, hb12⟩
      have K13 := Lib.hid ((K12.out.on hb12).alloc (.cells #[.int .u16 0, .int .u8 0, .slice none 0 0] 25))
      have HAW := Lib.hid (awake_any (w12.alloc (.cells #[.int .u16 0, .int .u8 0, .slice none 0 0] 25)))
      clear K12 HPN3 hb12
      go_wp2_with fail
      refine HAW.out.mono ?_
      rintro e w13 ⟨rfl, hb13⟩
      go_wp2_with fail
      go_ret
      exact ⟨ret_bool rfl, (K13.out.on hb13).below⟩
    · refine (Pack_no ⟨tx, un, p⟩ ax cx w5 (K.out.pdu.more (Nat.le_of_lt K.out.lt)) hR).mono ?_
      rintro e w6 ⟨rfl, hb6⟩
      have hR' : p.length < 1 ∨ (¬ p.length < 1 ∧ 253 < p.length) := by unfold Right at hR; simp only at hR; omega
      have K6 := Lib.hid (K.out.on hb6)
      have he2 := K6.out.cell2
      simp only at he2
      have HAW := Lib.hid (awake_any w6)
      clear K hb6 hR hd0 hd1 hd2
      rcases hR' with h | ⟨h, h'⟩
      · have u1 : decide ((1 : Int) ≤ (p.length : Int)) = false := by simp; omega
        go_wp2_with fail
        refine HAW.out.mono ?_
        rintro e w7 ⟨rfl, hb7⟩
        go_wp2_with fail
        go_ret
        exact ⟨ret_bool rfl, (K6.out.on hb7).below⟩
      · have u1 : decide ((1 : Int) ≤ (p.length : Int)) = true := by simp; omega
        have u2 : decide ((p.length : Int) ≤ 253) = false := by simp; omega
        go_wp2_with fail
        refine HAW.out.mono ?_
        rintro e w7 ⟨rfl, hb7⟩
        go_wp2_with fail
        go_ret
        exact ⟨ret_bool rfl, (K6.out.on hb7).below⟩
  | some y =>
    have HPY := Lib.hid (Parse_yes ab nb cb b _ hbw hpn)
    obtain ⟨hyR, hyb⟩ := parse_some hpn
    have HYR := Lib.hid hyR
    have HYB := Lib.hid hyb
    have HB0 := Lib.hid hb
    clear hpn hbw hb hyR hyb
    obtain ⟨tx, un, p⟩ := x
    obtain ⟨ty, uy, py⟩ := y
    simp only at *
    go_enter Try.func5, Try.ntmps5
    go_wp2_with fail
    refine HPY.out.mono ?_
    rintro e w1 ⟨a1, c1, rfl, hs1, hb1, hx1⟩
    have K1 := Lib.hid ((K0.out.on hb1).alloc (.cells (frC ⟨ty, uy, py⟩ a1 c1) 25))
    have HPK := Lib.hid (Pack_yes ⟨ty, uy, py⟩ a1 c1 (w1.alloc (.cells (frC ⟨ty, uy, py⟩ a1 c1) 25)) ((hs1.alloc (Nat.le_refl _) _).more (by simp)) HYR.out)
    clear HPY hb1 K0 hs1 hx1
    go_wp2_with fail
    refine HPK.out.mono ?_
    rintro e w2 ⟨a2, c2, rfl, hs2, hb2, hx2⟩
    have K2 := Lib.hid (K1.out.on hb2)
    have HSM := Lib.hid (Same_any _ _ _ _ _ _ _ _ _ _ w2 (HB0.out.below K2.out.below (Nat.le_refl _)) hs2)
    rw [HYB.out, decide_eq_true rfl] at HSM
    have hd0' := K2.out.cell0
    have hd1' := K2.out.cell1
    have hd2' := K2.out.cell2
    simp only at hd0' hd1' hd2'
    clear HPK K1 hs2 hb2 hx2 HB0
    generalize packN ⟨ty, uy, py⟩ = pky at *
    go_wp2_with fail
    refine HSM.out.mono ?_
    rintro e w3 ⟨rfl, q3, rfl⟩
    have K := Lib.hid (K2.out.on (below_drawn (Below.refl _ _) q3))
    clear HSM K2 HYB
    have hd0 : (w2.drewN q3).cell? ⟨w.heap.size, 0, none⟩ = some (.int .u16 (tx.toNat : Int)) := hd0'
    have hd1 : (w2.drewN q3).cell? ⟨w.heap.size, 1, none⟩ = some (b8 un) := hd1'
    have hd2 : (w2.drewN q3).cell? ⟨w.heap.size, 2, none⟩ = some (.slice ax p.length cx) := hd2'
    clear hd0' hd1' hd2'
    generalize w2.drewN q3 = w5 at *
    go_wp2_with fail
    by_cases hR : Right ⟨tx, un, p⟩
    · refine (Pack_yes ⟨tx, un, p⟩ ax cx w5 (K.out.pdu.more (Nat.le_of_lt K.out.lt)) hR).mono ?_
      rintro e w6 ⟨ac, cc, rfl, hsc, hb6, hxc⟩
      have hpl := packN_length ⟨tx, un, p⟩
      simp only at hpl
      have hm1 : 1 ≤ p.length := hR.1
      have hm2 : p.length ≤ 253 := hR.2
      have HP1 := Lib.hid (parse_pack hR)
      have HP2 := Lib.hid (parse_more hR (t := [0]) (by simp))
      have HP3 := Lib.hid (parse_less hR)
      rw [hpl] at hsc HP3 ⊢
      have K6 := Lib.hid (K.out.on hb6)
      have HSC := Lib.hid hsc
      have HPL := Lib.hid hpl
      have u1 : decide ((1 : Int) ≤ (p.length : Int)) = true := by simp; omega
      have u2 : decide ((p.length : Int) ≤ 253) = true := by simp; omega
      have he2 := K6.out.cell2
      simp only at he2
      generalize packN ⟨tx, un, p⟩ = pk at *
      clear K hb6 hxc hsc hpl hd0 hd1 hd2
      go_wp2_with fail
      refine (Parse_yes ac _ cc pk w6 HSC.out HP1.out).mono ?_
      rintro e w7 ⟨a7, c7, rfl, hs7, hb7, hx7⟩
      have K7 := Lib.hid (K6.out.on hb7)
      have HSC7 := Lib.hid ((HSC.out.below hb7 (Nat.le_refl _)).more hb7.size)
      have HS7 := Lib.hid hs7
      have K8 := Lib.hid (K7.out.alloc (.cells #[.int .u16 (tx.toNat : Int), b8 un, .slice a7 p.length c7] 25))
      have hf0 := K8.out.cell0
      have hf1 := K8.out.cell1
      have hf2 := K8.out.cell2
      have K9 := Lib.hid ((K8.out.alloc (.cells #[.int .u16 (tx.toNat : Int), b8 un, .slice ax p.length cx] 25)).alloc (.cells #[.int .u16 (tx.toNat : Int), b8 un, .slice a7 p.length c7] 25))
      have HSC9 := Lib.hid (((HSC7.out.alloc (Nat.le_refl _) (.cells #[.int .u16 (tx.toNat : Int), b8 un, .slice a7 p.length c7] 25)).alloc (by simp) (.cells #[.int .u16 (tx.toNat : Int), b8 un, .slice ax p.length cx] 25)).alloc (by simp; omega) (.cells #[.int .u16 (tx.toNat : Int), b8 un, .slice a7 p.length c7] 25))
      have HSY : Hid (Calls Try.prog 16 #[.slice (some ⟨w7.heap.size + 1, 0, none⟩) 1 1, .slice (some ⟨w7.heap.size + 1 + 1, 0, none⟩) 1 1] (((w7.alloc (.cells #[.int .u16 (tx.toNat : Int), b8 un, .slice a7 p.length c7] 25)).alloc (.cells #[.int .u16 (tx.toNat : Int), b8 un, .slice ax p.length cx] 25)).alloc (.cells #[.int .u16 (tx.toNat : Int), b8 un, .slice a7 p.length c7] 25)) (SaysD (.bool true) (((w7.alloc (.cells #[.int .u16 (tx.toNat : Int), b8 un, .slice a7 p.length c7] 25)).alloc (.cells #[.int .u16 (tx.toNat : Int), b8 un, .slice ax p.length cx] 25)).alloc (.cells #[.int .u16 (tx.toNat : Int), b8 un, .slice a7 p.length c7] 25)))) := by
        have f1 := FrsAt.new (x := ⟨tx, un, p⟩) (K8.out.pdu.more (Nat.le_of_lt K8.out.lt))
        have f2 := FrsAt.new (w := (w7.alloc (.cells #[.int .u16 (tx.toNat : Int), b8 un, .slice a7 p.length c7] 25)).alloc (.cells (frC ⟨tx, un, p⟩ ax cx) 25)) (x := ⟨tx, un, p⟩) (a := a7) (c := c7) ((((HS7.out.alloc (Nat.le_refl _) (.cells #[.int .u16 (tx.toNat : Int), b8 un, .slice a7 p.length c7] 25)).alloc (by simp) (.cells (frC ⟨tx, un, p⟩ ax cx) 25))).more (by simp; omega))
        have f1' := f1.below ((Below.refl _ _).alloc (Nat.le_refl _) (.cells (frC ⟨tx, un, p⟩ a7 c7) 25)) (Nat.le_refl _)
        simp only [World.size_alloc] at f1' f2
        exact same_yes _ _ _ _ _ _ _ _ _ _ _ f1' f2 rfl
      have u3 : ((7 : Int) + (p.length : Int) != 7 + (p.length : Int)) = false := by simp
      have u3' : (((7 + p.length : Nat) : Int) != 7 + (p.length : Int)) = false := by simp
      have hg2 := K9.out.cell2
      simp only at hf0 hf1 hf2 hg2
      clear hb7 hs7 hx7 K6 K7 HSC HSC7 he2
      go_wp2_with fail
      refine HSY.out.mono ?_
      rintro e w9 ⟨rfl, q9, rfl⟩
      have hgd : ((((w7.alloc (.cells #[.int .u16 (tx.toNat : Int), b8 un, .slice a7 p.length c7] 25)).alloc (.cells #[.int .u16 (tx.toNat : Int), b8 un, .slice ax p.length cx] 25)).alloc (.cells #[.int .u16 (tx.toNat : Int), b8 un, .slice a7 p.length c7] 25)).drewN q9).cell? ⟨w.heap.size, 2, none⟩ = some (.slice ax p.length cx) := hg2
      have K10 := Lib.hid (K9.out.on (below_drawn (Below.refl _ _) q9))
      have HSC10 : Hid (Sl b8 ((((w7.alloc (.cells #[.int .u16 (tx.toNat : Int), b8 un, .slice a7 p.length c7] 25)).alloc (.cells #[.int .u16 (tx.toNat : Int), b8 un, .slice ax p.length cx] 25)).alloc (.cells #[.int .u16 (tx.toNat : Int), b8 un, .slice a7 p.length c7] 25)).drewN q9) ((((w7.alloc (.cells #[.int .u16 (tx.toNat : Int), b8 un, .slice a7 p.length c7] 25)).alloc (.cells #[.int .u16 (tx.toNat : Int), b8 un, .slice ax p.length cx] 25)).alloc (.cells #[.int .u16 (tx.toNat : Int), b8 un, .slice a7 p.length c7] 25)).drewN q9).heap.size ac (7 + p.length) cc pk) := Lib.hid ((HSC9.out.drawn q9).more (by simp; omega))
      clear K8 K9 HSC9 HSY HS7 hf0 hf1 hf2 hg2
      generalize (((w7.alloc (.cells #[.int .u16 (tx.toNat : Int), b8 un, .slice a7 p.length c7] 25)).alloc (.cells #[.int .u16 (tx.toNat : Int), b8 un, .slice ax p.length cx] 25)).alloc (.cells #[.int .u16 (tx.toNat : Int), b8 un, .slice a7 p.length c7] 25)).drewN q9 = w10 at *
      go_wp2_with (first
          | (at_builtin; refine wpList_append_sl (f := b8) b8_one rfl (.tmp 93) (.tmp 94) 23 rfl w10.heap.size 5 i0 (.int .u8 0) 1 Try.underlying23 hi hz0 hz1 hz2' rfl (.slice (some ⟨w10.heap.size, 0, none⟩) 0 0) 0 [] rfl (World.ownsRow_made w10 #[] 0 (Nat.le_refl _) (by unfold maxLen; omega) rfl) ac (7 + p.length) cc rfl (HSC10.out.alloc (Nat.le_refl _) _) (by unfold maxLen; omega) (by omega) (by simp) ?_; intro va10 wa10 howna10 hga10; simp only [Nat.zero_add, List.nil_append] at howna10; have HA10 := Lib.hid (((Below.refl w10.heap.size w10).alloc (Nat.le_refl _) (.cells #[] 5)).grown hga10 (by simp) (by simp [Value.ownBlock])); have HO10 := Lib.hid howna10; have hza10 := HA10.out.size; clear howna10 hga10)
          | (at_builtin; refine wpList_append_new rfl (.tmp 95) (.tmp 96) 23 rfl w10.heap.size 5 i0 (.int .u8 0) 1 Try.underlying23 hi hz0 hz1 hz2' rfl va10 _ _ rfl (HO10.out.alloc _) ⟨wa10.heap.size, 0, none⟩ 1 1 (([0] : List UInt8).map b8) rfl rfl (new_cells wa10 (([0] : List UInt8).map b8).toArray _) (fun u hu => by obtain ⟨y, _, rfl⟩ := List.mem_map.1 hu; rfl) (by unfold maxLen; omega) (by omega) (by simp; omega) ?_; intro vb10 wb10 hownb10 hgb10; have HB10 := Lib.hid ((HA10.out.alloc hza10 (.cells (([0] : List UInt8).map b8).toArray 5)).grown hgb10 (by simp; omega) (fun k hk => (HO10.out.lt k hk).1)); obtain ⟨ab10, cb10, rfl, hsb10⟩ := Sl.of_own (l := pk ++ [0]) (f := b8) (by simpa using hownb10); clear hownb10 hgb10))
      refine (Parse_no ab10 _ cb10 (pk ++ [0]) wb10 hsb10 HP2.out).mono ?_
      rintro e w11 ⟨rfl, hb11⟩
      have K11 := Lib.hid ((K10.out.on HB10.out).on hb11)
      have HSC11 := Lib.hid (((HSC10.out.below HB10.out (Nat.le_refl _)).more HB10.out.size).below hb11 (Nat.le_refl _))
      have hz11 := hb11.size
      have HSL := Lib.hid ((((HSC11.out.take_ (k := 7 + p.length - 1) (by omega)).more hz11).alloc (Nat.le_refl _) (.cells #[.int .u16 0, .int .u8 0, .slice none 0 0] 25)).more (show _ ≤ (w11.alloc (.cells #[.int .u16 0, .int .u8 0, .slice none 0 0] 25)).heap.size by simp))
      have K12 := Lib.hid (K11.out.alloc (.cells #[.int .u16 0, .int .u8 0, .slice none 0 0] 25))
      have HPN3 := Lib.hid (Parse_no ac (7 + p.length - 1) cc (pk.take (7 + p.length - 1)) _ HSL.out HP3.out)
      have hcc := HSC11.out.nle
      have hccm : cc ≤ 9223372036854775807 := by have := HSC11.out.cle; unfold maxLen at this; exact this
      clear K10 HSC10 HB10 HO10 HA10 hza10 hsb10 hb11 K11 HSC11 HSL hgd
      go_wp2_with fail
      rw [show 7 + p.length - 1 = 6 + p.length by omega] at HPN3
      refine HPN3.out.mono ?_
      rintro e w12 ⟨rfl, hb12⟩
      have K13 := Lib.hid ((K12.out.on hb12).alloc (.cells #[.int .u16 0, .int .u8 0, .slice none 0 0] 25))
      have HAW := Lib.hid (awake_any (w12.alloc (.cells #[.int .u16 0, .int .u8 0, .slice none 0 0] 25)))
      clear K12 HPN3 hb12
      go_wp2_with fail
      refine HAW.out.mono ?_
      rintro e w13 ⟨rfl, hb13⟩
      go_wp2_with fail
      go_ret
      exact ⟨ret_bool rfl, (K13.out.on hb13).below⟩
    · refine (Pack_no ⟨tx, un, p⟩ ax cx w5 (K.out.pdu.more (Nat.le_of_lt K.out.lt)) hR).mono ?_
      rintro e w6 ⟨rfl, hb6⟩
      have hR' : p.length < 1 ∨ (¬ p.length < 1 ∧ 253 < p.length) := by unfold Right at hR; simp only at hR; omega
      have K6 := Lib.hid (K.out.on hb6)
      have he2 := K6.out.cell2
      simp only at he2
      have HAW := Lib.hid (awake_any w6)
      clear K hb6 hR hd0 hd1 hd2
      rcases hR' with h | ⟨h, h'⟩
      · have u1 : decide ((1 : Int) ≤ (p.length : Int)) = false := by simp; omega
        go_wp2_with fail
        refine HAW.out.mono ?_
        rintro e w7 ⟨rfl, hb7⟩
        go_wp2_with fail
        go_ret
        exact ⟨ret_bool rfl, (K6.out.on hb7).below⟩
      · have u1 : decide ((1 : Int) ≤ (p.length : Int)) = true := by simp; omega
        have u2 : decide ((p.length : Int) ≤ 253) = false := by simp; omega
        go_wp2_with fail
        refine HAW.out.mono ?_
        rintro e w7 ⟨rfl, hb7⟩
        go_wp2_with fail
        go_ret
        exact ⟨ret_bool rfl, (K6.out.on hb7).below⟩
end Go.Proofs.Yteekdginloljjaa.MbW
