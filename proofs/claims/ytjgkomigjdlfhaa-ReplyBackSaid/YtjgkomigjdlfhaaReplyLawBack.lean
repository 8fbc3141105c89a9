/- The law ReplyBack, walked. -/
import Derived.Test.YtjgkomigjdlfhaaReplyAwake
import Derived.Test.YtjgkomigjdlfhaaAskLawOne
open Go.RowKit
namespace Go.Proofs.Ytjgkomigjdlfhaa.ReplyW
open AskM ReplyM AskW Mem

set_option maxRecDepth 100000 in
set_option maxHeartbeats 40000000 in
theorem ReplyBack_walk (a : Rep) (aw : Option Addr) (cw : Nat) (ab : Option Addr) (cb : Nat) (hv : Option Addr) (m c : Nat) (lh : List UInt8) (w : World) (hA : RepAt w w.heap.size a aw cw ab cb) (hS : Sl b8 w w.heap.size hv m c lh) :
    Calls Try.prog 10 #[repV a aw cw ab cb, .slice hv m c] w (Says (.bool true) w) := by
  have l1 := len_le hA.words
  have l2 := len_le hA.bits
  have l3 := len_le hS
  have l4 := hS.len
  have HS := Lib.hid hS
  have HA := Lib.hid hA
  clear hA hS
  obtain ⟨f1, x1, bs, ws, a1, m1⟩ := a
  simp only at l1 l2
  by_cases h1 : ws.length ≤ 200 ∧ bs.length ≤ 2100
  case neg =>
    have hx := Lib.hid (few_false h1)
    clear h1
    go_enter Try.func10, Try.ntmps10
    go_wp2_with fail
    refine (Few_any _ _ _ _ _ _ _ l1 l2).mono ?_
    rintro e w1 ⟨rfl, rfl⟩
    rw [hx.out]
    go_wp2_with fail
    refine (rawake_any _).mono ?_
    rintro e w1 ⟨rfl, hb⟩
    go_wp2_with fail
    go_ret
    exact Says.mk (((Below.refl _ _).alloc (Nat.le_refl _) _).trans (hb.mono (by simp)))
  have hx1 := Lib.hid (few_true h1.1 h1.2)
  by_cases h3 : 20 < m
  · have h3' : decide (20 < (m : Int)) = true := by simp; omega
    clear h1
    go_enter Try.func10, Try.ntmps10
    go_wp2_with fail
    refine (Few_any _ _ _ _ _ _ _ l1 l2).mono ?_
    rintro e w1 ⟨rfl, rfl⟩
    rw [hx1.out]
    go_wp2_with fail
    refine (rawake_any _).mono ?_
    rintro e w1 ⟨rfl, hb⟩
    go_wp2_with fail
    go_ret
    exact Says.mk (((Below.refl _ _).alloc (Nat.le_refl _) _).trans (hb.mono (by simp)))
  have h3' : decide (20 < (m : Int)) = false := by simp; omega
  have hws : ws.length ≤ 1000000 := by omega
  have hbs : bs.length ≤ 1000000 := by omega
  have hbox := Box1.new w #[.int .u8 (f1.toNat : Int), .int .u8 (x1.toNat : Int), .slice ab bs.length cb, .slice aw ws.length cw, .int .u16 (a1.toNat : Int), .int .u16 (m1.toNat : Int)] 52
  have hBY := RBytes_any ⟨f1, x1, bs, ws, a1, m1⟩ aw cw ab cb _ (HA.out.below hbox.below) hws hbs
  cases hbn : rbytesN ⟨f1, x1, bs, ws, a1, m1⟩ with
  | none =>
    have hrf : rrightN ⟨f1, x1, bs, ws, a1, m1⟩ = false := rrightN_false.2 hbn
    rw [hbn] at hBY
    have HBY := Lib.hid hBY
    have HRF := Lib.hid hrf
    have HB1 := Lib.hid hbox
    clear hbn hrf hBY hbox h1
    go_enter Try.func10, Try.ntmps10
    go_wp2_with fail
    refine (Few_any _ _ _ _ _ _ _ l1 l2).mono ?_
    rintro e w1 ⟨rfl, rfl⟩
    rw [hx1.out]
    go_wp2_with fail
    refine HBY.out.mono ?_
    rintro e w1 ⟨rfl, hb⟩
    have HB2 := Lib.hid (HB1.out.on hb)
    clear hb
    have C1 := HB2.out.c
    go_wp2_with fail
    refine (RRight_any ⟨f1, x1, bs, ws, a1, m1⟩ aw cw ab cb _ (HA.out.below HB2.out.below)).mono ?_
    rw [HRF.out]
    rintro e w2 ⟨rfl, hb⟩
    have HB3 := Lib.hid (HB2.out.on hb)
    clear hb C1
    go_wp2_with fail
    refine (rawake_any _).mono ?_
    rintro e w3 ⟨rfl, hb⟩
    go_wp2_with fail
    go_ret
    exact Says.mk (HB3.out.below.trans (hb.mono HB3.out.below.size))
  | some la =>
    obtain ⟨hf1, hf2, hf3, hf4⟩ := rbytes_facts hbn
    have hrf : rrightN ⟨f1, x1, bs, ws, a1, m1⟩ = true := rrightN_iff.2 ⟨la, hbn⟩
    have HPB := Lib.hid (rparse_bytes hbn)
    have HPT := Lib.hid (fun k (hk : k < la.length) => rparse_take hbn hk)
    have HPM := Lib.hid (fun c (hc : c ≠ []) => rparse_more hbn (c := c) hc)
    rw [hbn] at hBY
    have HBY := Lib.hid hBY
    have HRF := Lib.hid hrf
    have HB1 := Lib.hid hbox
    have HF4 := Lib.hid hf4
    clear hbn hrf hBY hbox h1 hf1 hf4
    obtain ⟨i0, hi, hz0, hz1, hz2⟩ := info_parts info8
    have hz2' : i0.bytes = 1 := hz2
    generalize hn : la.length = n at *
    have HN := Lib.hid hn
    clear hn
    go_enter Try.func10, Try.ntmps10
    go_wp2_with fail
    refine (Few_any _ _ _ _ _ _ _ l1 l2).mono ?_
    rintro e w1 ⟨rfl, rfl⟩
    rw [hx1.out]
    go_wp2_with fail
    refine HBY.out.mono ?_
    rintro e w1 ⟨x1, c1, rfl, hs, hb, hx⟩
    have HB2 := Lib.hid (HB1.out.on hb)
    clear HBY
    obtain ⟨bb, ob, rfl, hbb, -⟩ := hs.cells (by have := HN.out; omega)
    have hbl : w.heap.size < bb := by have := hx _ rfl; simp at this; omega
    have HSB : Hid (Sl b8 w1 w1.heap.size (some ⟨bb, ob, none⟩) n c1 la) := by rw [HN.out] at hs; exact Lib.hid hs
    rw [HN.out]
    clear hb hs hx
    have C1 := HB2.out.c
    go_wp2_with fail
    refine (RRight_any ⟨f1, x1, bs, ws, a1, m1⟩ aw cw ab cb _ (HA.out.below HB2.out.below)).mono ?_
    rw [HRF.out]
    rintro e w2 ⟨rfl, hb⟩
    have HB3 := Lib.hid (HB2.out.on hb)
    have HZ2 := Lib.hid hb.size
    have HBW1 := Lib.hid hb
    have hS2 := (HSB.out.below hb (Nat.le_refl _)).more hb.size
    clear hb C1 HB2 hx1 h3'
    go_wp2_with (at_builtin; go_loud (refine wpList_append_sl (f := b8) b8_one rfl (.tmp 46) (.tmp 47) 27 rfl w2.heap.size 5 i0 (.int .u8 0) 1 Try.underlying27 hi hz0 hz1 hz2' rfl (.slice (some ⟨w2.heap.size, 0, none⟩) 0 0) 0 [] rfl (World.ownsRow_made w2 #[] 0 (Nat.le_refl _) (by unfold maxLen; omega) rfl) (some ⟨bb, ob, none⟩) n c1 rfl (hS2.alloc (Nat.le_refl _) _) (by unfold maxLen; omega) (by omega) (by simp) ?_; intro v4 w4 hown4 hgrow4; simp only [Nat.zero_add, List.nil_append] at hown4; obtain ⟨g, cap, hv4, hg1, hg2, hov, hSg⟩ := own_at hown4 (by omega); subst hv4; have HW4 := Lib.hid (((Below.refl w2.heap.size w2).alloc (Nat.le_refl _) (.cells #[] 5)).grown hgrow4 (by simp) (by simp [Value.ownBlock])); have HOV := Lib.hid hov; have HSG := Lib.hid hSg; clear hown4 hgrow4 hov hSg))
    refine (RParse_any _ _ _ _ _ HSG.out).mono ?_
    rw [HPB.out]
    rintro e w5 ⟨pw, dw, pb, db, rfl, hP, hb5, hfr⟩
    have HP := Lib.hid hP
    have HFR := Lib.hid hfr
    have HG2 := Lib.hid (Nat.lt_of_lt_of_le hg2 hb5.size)
    have HOV5 := Lib.hid (HOV.out.start (hb5.alloc hb5.size (.cells #[.int .u8 (f1.toNat : Int), .int .u8 (x1.toNat : Int), .slice pb bs.length db, .slice pw ws.length dw, .int .u16 (a1.toNat : Int), .int .u16 (m1.toNat : Int)] 52)))
    have HW5 := Lib.hid (HW4.out.trans (hb5.mono HW4.out.size))
    have HZ5 := Lib.hid hb5.size
    clear hP hfr hb5 HOV HSG hS2
    simp only [Option.getD_some, Option.isSome_some, if_true, repV] at *
    go_wp2_with fail
    have HXB := Lib.hid (heap_alloc_new w5 (.cells #[.int .u8 (f1.toNat : Int), .int .u8 (x1.toNat : Int), .slice pb bs.length db, .slice pw ws.length dw, .int .u16 (a1.toNat : Int), .int .u16 (m1.toNat : Int)] 52))
    have HW6 := Lib.hid (HW5.out.alloc (Nat.le_trans (Nat.le_refl _) HW5.out.size) (.cells #[.int .u8 (f1.toNat : Int), .int .u8 (x1.toNat : Int), .slice pb bs.length db, .slice pw ws.length dw, .int .u16 (a1.toNat : Int), .int .u16 (m1.toNat : Int)] 52))
    have hz6 : (w5.alloc (.cells #[.int .u8 (f1.toNat : Int), .int .u8 (x1.toNat : Int), .slice pb bs.length db, .slice pw ws.length dw, .int .u16 (a1.toNat : Int), .int .u16 (m1.toNat : Int)] 52)).heap.size = w5.heap.size + 1 := by simp
    have HPA := Lib.hid (((HP.out.below ((Below.refl _ _).alloc (Nat.le_refl _) (.cells #[.int .u8 (f1.toNat : Int), .int .u8 (x1.toNat : Int), .slice pb bs.length db, .slice pw ws.length dw, .int .u16 (a1.toNat : Int), .int .u16 (m1.toNat : Int)] 52)))))
    generalize hW6 : w5.alloc (.cells #[.int .u8 (f1.toNat : Int), .int .u8 (x1.toNat : Int), .slice pb bs.length db, .slice pw ws.length dw, .int .u16 (a1.toNat : Int), .int .u16 (m1.toNat : Int)] 52) = W6 at *
    clear hW6
    have HZ6 := Lib.hid hz6
    clear hz6
    go_loopw [10, 56] (fun u i wr => ∃ k : Nat, k ≤ n ∧ i = .int .i64 k ∧ Over W6 wr g n) (fun _ i _ => n - (intOf i).toNat)
    case atStart => exact ⟨0, by omega, rfl, HOV5.out⟩
    case round =>
      obtain ⟨k, hk, rfl, hov⟩ := hrel
      by_cases hlt : k < n
      · have ht : decide ((k : Int) < (n : Int)) = true := by simp; omega
        obtain ⟨x, hcx⟩ := hov.cell hlt
        have hfx := hov.free (i := k)
        have hfl := flip_val x
        have HOV6 := Lib.hid (hov.set (i := k) (x ^^^ 255))
        clear hov
        go_wp2_with fail
        go_roundw
        case rel => exact ⟨k + 1, by omega, by go_num, HOV6.out⟩
        case measure => simp [intOf]; omega
      · obtain rfl : k = n := by omega
        have ht : decide ((k : Int) < (k : Int)) = false := by simp
        have HBX := Lib.hid (hov.below HW6.out (by have := HZ6.out; have := HZ5.out; omega) (by omega))
        have HZR := Lib.hid hov.size
        have HRA := Lib.hid ((hov.block (by have := HZ6.out; have := HZ5.out; have := HZ2.out; have := HB3.out.lt; omega) (by have := HB3.out.lt; omega)).trans ((HW6.out.block _ HB3.out.lt).trans HB3.out.row))
        have HRX := Lib.hid ((hov.block (by have := HZ6.out; omega) (by have := HG2.out; omega)).trans HXB.out)
        have HAA : Hid (RepAt wr w.heap.size ⟨f1, x1, bs, ws, a1, m1⟩ aw cw ab cb) := Lib.hid ⟨hov.sl ((HA.out.words.below (HB3.out.below.trans (HW6.out.mono HB3.out.below.size)) (Nat.le_refl _))) (.inl (by have := HB3.out.lt; omega)), hov.sl ((HA.out.bits.below (HB3.out.below.trans (HW6.out.mono HB3.out.below.size)) (Nat.le_refl _))) (.inl (by have := HB3.out.lt; omega))⟩
        have HAX : Hid (RepAt wr W6.heap.size ⟨f1, x1, bs, ws, a1, m1⟩ pw dw pb db) := Lib.hid ⟨hov.sl HPA.out.words (.inr fun y hy => by have := HFR.out y (.inl hy); omega), hov.sl HPA.out.bits (.inr fun y hy => by have := HFR.out y (.inr hy); omega)⟩
        have HSW := Lib.hid (hov.sl (HSB.out.below (HBW1.out.trans (HW6.out.mono HZ2.out)) (Nat.le_refl _)) (.inl (by have := HZ2.out; omega)))
        clear hov HOV5 HXB HPA HFR HA
        clear hk hlt
        have C2 := fun i => cell_of_row _ _ i _ _ _ HRA.out
        have C8 := fun i => cell_of_row _ _ i _ _ _ HRX.out
        have t1 : decide ((k : Int) < 2) = false := by simp; omega
        have t2 : decide (253 < (k : Int)) = false := by simp; omega
        go_wp2_with fail
        refine (RSame_any ⟨f1, x1, bs, ws, a1, m1⟩ ⟨f1, x1, bs, ws, a1, m1⟩ aw cw ab cb pw dw pb db wr (HAA.out.up (Below.refl _ _) (by have := HB3.out.lt; have := HBX.out.size; omega)) (HAX.out.up (Below.refl _ _) HZR.out)).mono ?_
        rintro e w8 ⟨rfl, hb8⟩
        have hee : decide ((⟨f1, x1, bs, ws, a1, m1⟩ : Rep) = ⟨f1, x1, bs, ws, a1, m1⟩) = true := by simp
        rw [hee]
        have HC8 := Lib.hid hb8
        clear hb8 hee C2 C8
        go_wp2_with fail
        have HWR := Lib.hid (HB3.out.below.trans (HBX.out.mono HB3.out.below.size))
        have HW8 := Lib.hid (HWR.out.trans (HC8.out.mono HWR.out.size))
        have HS8 := Lib.hid (HSW.out.below HC8.out (by have := HWR.out.size; have := HZ2.out; have := HBX.out.size; omega))
        have HB8 := Lib.hid (HS.out.below HW8.out (Nat.le_refl _))
        have HZ8 := Lib.hid (Nat.le_trans (Nat.le_trans HZ2.out HBX.out.size) HC8.out.size)
        clear HRA HRX HAA HAX HSW
        go_loopw [90] (fun i wq => ∃ j : Nat, j ≤ k ∧ i = .int .i64 j ∧ Below w8.heap.size w8 wq) (fun i _ => k - (intOf i).toNat)
        case atStart => exact ⟨0, by omega, rfl, Below.refl _ _⟩
        case round =>
          obtain ⟨j, hj, rfl, hbq⟩ := hrel
          by_cases hlt : j < k
          · have ht : decide ((j : Int) < (k : Int)) = true := by simp; omega
            have hSj := (HS8.out.below hbq HZ8.out)
            have hSk := (hSj.take_ (k := j) (by omega)).more (Nat.le_trans HZ8.out hbq.size)
            have hPA := RParse_any _ _ _ _ _ hSk
            rw [HPT.out j (by have := HN.out; omega)] at hPA
            have HPA := Lib.hid hPA
            have HBQ := Lib.hid hbq
            have hjc : j ≤ c1 := by have := hSj.nle; omega
            clear hSj hSk hPA hbq
            by_cases g1 : j < 8
            · have t1 : decide ((j : Int) < 8) = true := by simp; omega
              go_wp2_with fail
              refine HPA.out.mono ?_
              rintro e w9 ⟨pw2, dw2, pb2, db2, rfl, -, hb9, -⟩
              have HB9 := Lib.hid (fun o => (HBQ.out.trans (hb9.mono HBQ.out.size)).alloc (Nat.le_trans HBQ.out.size hb9.size) o)
              clear hb9 HPA
              simp only [Option.getD_none, Option.isSome_none, Bool.false_eq_true, if_false, repV, zeroR]
              go_wp2_with fail
              go_roundw
              case rel => exact ⟨j + 1, by omega, by go_num, HB9.out _⟩
              case measure => simp [intOf]; omega
            · have t1 : decide ((j : Int) < 8) = false := by simp; omega
              by_cases g2 : k < j + 5
              · have t2 : decide ((k : Int) - (j : Int) < 5) = true := by simp; omega
                go_wp2_with fail
                refine HPA.out.mono ?_
                rintro e w9 ⟨pw2, dw2, pb2, db2, rfl, -, hb9, -⟩
                have HB9 := Lib.hid (fun o => (HBQ.out.trans (hb9.mono HBQ.out.size)).alloc (Nat.le_trans HBQ.out.size hb9.size) o)
                clear hb9 HPA
                simp only [Option.getD_none, Option.isSome_none, Bool.false_eq_true, if_false, repV, zeroR]
                go_wp2_with fail
                go_roundw
                case rel => exact ⟨j + 1, by omega, by go_num, HB9.out _⟩
                case measure => simp [intOf]; omega
              · have t2 : decide ((k : Int) - (j : Int) < 5) = false := by simp; omega
                by_cases g3 : j % 9 = 0
                · have t3 : ((j : Int) % 9 == 0) = true := by simp; omega
                  go_wp2_with fail
                  refine HPA.out.mono ?_
                  rintro e w9 ⟨pw2, dw2, pb2, db2, rfl, -, hb9, -⟩
                  have HB9 := Lib.hid (fun o => (HBQ.out.trans (hb9.mono HBQ.out.size)).alloc (Nat.le_trans HBQ.out.size hb9.size) o)
                  clear hb9 HPA
                  simp only [Option.getD_none, Option.isSome_none, Bool.false_eq_true, if_false, repV, zeroR]
                  go_wp2_with fail
                  go_roundw
                  case rel => exact ⟨j + 1, by omega, by go_num, HB9.out _⟩
                  case measure => simp [intOf]; omega
                · have t3 : ((j : Int) % 9 == 0) = false := by simp; omega
                  go_wp2_with fail
                  go_roundw
                  case rel => exact ⟨j + 1, by omega, by go_num, HBQ.out⟩
                  case measure => simp [intOf]; omega
          · obtain rfl : j = k := by omega
            have ht : decide ((j : Int) < (j : Int)) = false := by simp
            have HBQ := Lib.hid hbq
            clear hbq
            have HSQ := (HS8.out.below HBQ.out HZ8.out).more (Nat.le_trans HZ8.out HBQ.out.size)
            have HWQ := Lib.hid (HW8.out.trans (HBQ.out.mono HW8.out.size))
            have hSh := HB8.out.below HBQ.out HW8.out.size
            go_wp2_with (first
              | (at_builtin; refine wpList_append_sl (f := b8) b8_one rfl (.tmp 118) (.tmp 119) 27 rfl wr.heap.size 5 i0 (.int .u8 0) 1 Try.underlying27 hi hz0 hz1 hz2' rfl (.slice (some ⟨wr.heap.size, 0, none⟩) 0 0) 0 [] rfl (World.ownsRow_made wr #[] 0 (Nat.le_refl _) (by unfold maxLen; omega) rfl) (some ⟨bb, ob, none⟩) j c1 rfl (HSQ.alloc (Nat.le_refl _) _) (by unfold maxLen; omega) (by omega) (by simp) ?_; intro v6 w6 hown6 hgrow6; simp only [Nat.zero_add, List.nil_append] at hown6; have HW6b := Lib.hid (((Below.refl wr.heap.size wr).alloc (Nat.le_refl _) (.cells #[] 5)).grown hgrow6 (by simp) (by simp [Value.ownBlock])); have HO6 := Lib.hid hown6; have HSH6 := Lib.hid (hSh.below HW6b.out HWQ.out.size); clear hown6 hgrow6)
              | (at_builtin; refine wpList_append_sl (f := b8) b8_one rfl (.tmp 120) (.tmp 121) 27 rfl wr.heap.size 5 i0 (.int .u8 0) 1 Try.underlying27 hi hz0 hz1 hz2' rfl v6 j (la.map b8) rfl HO6.out hv m c rfl HSH6.out (by unfold maxLen; omega) (by omega) HW6b.out.size ?_; intro v7 w7 hown7 hgrow7; rw [← List.map_append] at hown7; obtain ⟨g7, cap7, hv7, hg7, hg8, -, hS7⟩ := own_at hown7 (by omega); subst hv7; have HW7 := Lib.hid (HW6b.out.grown hgrow7 HW6b.out.size (fun q hq => (HO6.out.lt q hq).1)); have HS7 := Lib.hid hS7; clear hown7 hgrow7 hS7))
            have hPA := RParse_any _ _ _ _ _ HS7.out
            have HWE := Lib.hid (HWQ.out.trans (HW7.out.mono HWQ.out.size))
            by_cases hm0 : m = 0
            · have hlh : lh = [] := List.eq_nil_of_length_eq_zero (by omega)
              rw [hlh, List.append_nil, HPB.out] at hPA
              have HPA := Lib.hid hPA
              clear hPA hlh l4
              subst hm0
              refine HPA.out.mono ?_
              rintro e w9 ⟨pw2, dw2, pb2, db2, rfl, -, hb9, -⟩
              have HB9 := Lib.hid (fun o => (HWE.out.trans (hb9.mono HWE.out.size)).alloc (Nat.le_trans HWE.out.size hb9.size) o)
              clear hb9 HPA
              simp only [Option.getD_some, Option.isSome_some, if_true, repV]
              go_wp2_with fail
              refine (rawake_any _).mono ?_
              rintro e w10 ⟨rfl, hb⟩
              have HBE := Lib.hid ((HB9.out _).trans (hb.mono (HB9.out _).size))
              go_wp2_with fail
              go_ret
              exact Says.mk HBE.out
            · have hlh : lh ≠ [] := fun h => hm0 (by rw [← l4, h]; rfl)
              rw [HPM.out lh hlh] at hPA
              have HPA := Lib.hid hPA
              have hm1 : ((m : Int) == 0) = false := by simp; omega
              clear hPA hlh l4
              refine HPA.out.mono ?_
              rintro e w9 ⟨pw2, dw2, pb2, db2, rfl, -, hb9, -⟩
              have HB9 := Lib.hid (fun o => (HWE.out.trans (hb9.mono HWE.out.size)).alloc (Nat.le_trans HWE.out.size hb9.size) o)
              clear hb9 HPA
              simp only [Option.getD_none, Option.isSome_none, Bool.false_eq_true, if_false, repV, zeroR]
              go_wp2_with fail
              refine (rawake_any _).mono ?_
              rintro e w10 ⟨rfl, hb⟩
              have HBE := Lib.hid ((HB9.out _).trans (hb.mono (HB9.out _).size))
              go_wp2_with fail
              go_ret
              exact Says.mk HBE.out
end Go.Proofs.Ytjgkomigjdlfhaa.ReplyW
