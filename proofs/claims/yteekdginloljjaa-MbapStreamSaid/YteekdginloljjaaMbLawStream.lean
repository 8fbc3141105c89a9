/- However a stream comes in parts, it tells the same frames: the walk. -/
import Derived.Test.YteekdginloljjaaMbStream
open Go.RowKit
namespace Go.Proofs.Yteekdginloljjaa.MbW
open MbM Mem
/-- Between two parts. -/
def Mid (B : List UInt8) (F : List Fr) (np : Nat) (w : World) (v9 v10 v11 v12 : Value) (wr : World) : Prop :=
  ∃ (k i : Nat) (G : List Fm) (K : List Fr) (L : List UInt8), k ≤ B.length ∧ i ≤ np + 1 ∧ (k < B.length → i ≤ np) ∧ v11 = .int .i64 (k : Int) ∧ v12 = .int .i64 (i : Int) ∧ wr.ownsRow w.heap.size 25 3 v9 G.length (rowM G) ∧ (Pdus wr G ∧ Apart G v9 ∧ Apart G v10) ∧
    wr.ownsRow w.heap.size 5 1 v10 L.length (L.map b8) ∧ Below w.heap.size w wr ∧ F = G.map Fm.x ++ K ∧ (∀ x ∈ K, Right x) ∧ L ++ B.drop k = flat K ∧ first L = none

/-- What is known of bytes and frames when a round ends. -/
def Plan (B : List UInt8) (F : List Fr) (np k nn i : Nat) (G : List Fm) (K : List Fr) (s : List UInt8) : Prop :=
  k + nn ≤ B.length ∧ i + 1 ≤ np + 1 ∧ (k + nn < B.length → i + 1 ≤ np) ∧ F = G.map Fm.x ++ K ∧ (∀ x ∈ K, Right x) ∧ s ++ B.drop (k + nn) = flat K ∧ first s = none
theorem mid_step {B : List UInt8} {F : List Fr} {np : Nat} {w W W' : World} {v9 r v10 : Value} {k nn i n9 n10 : Nat} {G : List Fm} {K : List Fr} {s : List UInt8} {b0 : Nat} (h9 : W.ownsRow w.heap.size 25 3 v9 n9 (rowM G)) (hP : Pdus W G) (hA : Apart G v9) (hr : W.ownsRow b0 5 1 r 0 []) (hAr : Apart G r) (hb0 : w.heap.size ≤ b0)
    (hB : Below w.heap.size w W) (h10 : W'.ownsRow b0 5 1 v10 n10 (s.map b8)) (hg : Grew W r W' v10) (hp : Plan B F np k nn i G K s) : Mid B F np w v9 v10 (.int .i64 ((k : Int) + (nn : Int))) (.int .i64 ((i : Int) + 1)) W' := by
  obtain ⟨p1, p2, p3, p4, p5, p6, p7⟩ := hp
  obtain rfl : n9 = G.length := by have := h9.1; rw [rowM_length] at this; omega
  obtain rfl : n10 = s.length := by have := h10.1; rw [List.length_map] at this; omega
  refine ⟨k + nn, i + 1, G, K, s, p1, p2, p3, by push_cast; rfl, by push_cast; rfl, h9.kept hg.grown (own_ne hr h9 (by decide)), ⟨hP.grew hg hAr, hA, Apart.grew hP hg hAr⟩, own_low h10 hb0, Grew.below hB hg hB.size (fun k hk => Nat.le_trans hb0 (hr.lt k hk).1), p4, p5, p6, p7⟩
theorem mid_A {B : List UInt8} {F : List Fr} {np : Nat} {w W8 w9 w10 : World} {u9 v9 v10 : Value} {k nn i n9 n10 : Nat} {G es8 : List Fm} {K : List Fr} {s : List UInt8} (hG : W8.ownsRow w.heap.size 25 3 u9 G.length (rowM G)) (hP : Pdus W8 (G ++ es8)) (hA : Apart (G ++ es8) u9) (hB : Below w.heap.size w W8)
    (h9 : w9.ownsRow w.heap.size 25 3 v9 n9 (rowM G ++ rowM es8)) (hg9 : Grew W8 u9 w9 v9) (h10 : w10.ownsRow w9.heap.size 5 1 v10 n10 (s.map b8)) (hg10 : Grew (w9.alloc (.cells #[] 5)) (.slice (some ⟨w9.heap.size, 0, none⟩) 0 0) w10 v10) (hp : Plan B F np k nn i (G ++ es8) K s) :
    Mid B F np w v9 v10 (.int .i64 ((k : Int) + (nn : Int))) (.int .i64 ((i : Int) + 1)) w10 := by
  have hP9 := hP.grew hg9 hA
  have hB9 := Grew.below hB hg9 hB.size (fun k hk => (hG.lt k hk).1)
  rw [← rowM_append] at h9
  refine mid_step (h9.alloc _) (hP9.below ((Below.refl _ _).alloc (Nat.le_refl _) _)) (Apart.grew hP hg9 hA) (World.ownsRow_made w9 #[] 0 (Nat.le_refl _) (by unfold maxLen; omega) rfl) (fun e he y hy e2 => ?_) hB9.size (hB9.alloc hB9.size _) h10 hg10 hp
  have h1 := hP9.lt e he y hy
  simp [Value.ownBlock] at e2
  omega
theorem mid_B {B : List UInt8} {F : List Fr} {np : Nat} {w W8 w9 w10 : World} {u9 v9 v10 : Value} {k nn i n9 n10 : Nat} {G es8 : List Fm} {K : List Fr} {s : List UInt8} (hG : W8.ownsRow w.heap.size 25 3 u9 G.length (rowM G)) (hP : Pdus W8 (G ++ es8)) (hA : Apart (G ++ es8) u9) (hB : Below w.heap.size w W8)
    (h9 : w9.ownsRow w.heap.size 25 3 v9 n9 (rowM G ++ rowM es8)) (hg9 : Grew (W8.alloc (.cells #[] 5)) u9 w9 v9) (hr : w9.ownsRow W8.heap.size 5 1 (.slice (some ⟨W8.heap.size, 0, none⟩) 0 0) 0 []) (h10 : w10.ownsRow W8.heap.size 5 1 v10 n10 (s.map b8)) (hg10 : Grew w9 (.slice (some ⟨W8.heap.size, 0, none⟩) 0 0) w10 v10) (hp : Plan B F np k nn i (G ++ es8) K s) :
    Mid B F np w v9 v10 (.int .i64 ((k : Int) + (nn : Int))) (.int .i64 ((i : Int) + 1)) w10 := by
  have hPa : Pdus (W8.alloc (.cells #[] 5)) (G ++ es8) := hP.below ((Below.refl _ _).alloc (Nat.le_refl _) _)
  have hP9 := hPa.grew hg9 hA
  have hB9 := Grew.below (hB.alloc hB.size (.cells #[] 5)) hg9 (by simp; have := hB.size; omega) (fun k hk => (hG.lt k hk).1)
  rw [← rowM_append] at h9
  refine mid_step h9 hP9 (Apart.grew hPa hg9 hA) hr (fun e he y hy e2 => ?_) hB.size hB9 h10 hg10 hp
  have h1 := hP.lt e he y hy
  simp [Value.ownBlock] at e2
  omega
theorem left_part {w : World} {B n c : Nat} {a : Option Addr} {l p s : List UInt8} {uu : Nat} (h : Sl b8 w B a n c l) (hl : l = p ++ s) (hu : uu = n - s.length) : Sl b8 w B (if c = uu then a else a.map (·.add uu)) (n - uu) (c - uu) s := by
  have h1 := h.len
  have h2 : p.length = uu := by rw [hl, List.length_append] at h1; omega
  have h3 := h.from_ (k := uu) (by omega)
  rw [hl, ← h2, List.drop_left, h2] at h3
  exact h3
theorem left_some {w : World} {B n c g : Nat} {l p s : List UInt8} {uu : Nat} (h : Sl b8 w B (some ⟨g, 0, none⟩) n c l) (hl : l = p ++ s) (hu : uu = n - s.length) (hc : ¬ c = uu) : Sl b8 w B (some ⟨g, uu, none⟩) (n - uu) (c - uu) s := by
  have h1 := left_part h hl hu
  rw [if_neg hc] at h1
  have e : (Option.map (fun x : Addr => x.add uu) (some ⟨g, 0, none⟩)) = some ⟨g, uu, none⟩ := by by_cases h0 : uu = 0 <;> simp [Addr.add, h0]
  rwa [e] at h1

set_option maxRecDepth 100000 in
set_option maxHeartbeats 8000000 in
theorem MbapStream_walk (a : Option Addr) (n c : Nat) (es : List Fm) (am : Option Addr) (nm cm : Nat) (m : List UInt8) (w : World) (hL : FrsAt w w.heap.size a n c es) (hm : Sl b8 w w.heap.size am nm cm m) (hnm47 : nm ≤ 140737488351232) :
    Calls Try.prog 4 #[.slice a n c, .slice am nm cm] w (Says (.bool true) w) := by
  have hn : n ≤ 9223372036854775807 := by have h1 := hL.2.1; have h3 := hL.2.2.1; unfold maxLen at h3; omega
  have hnm := len_le hm
  obtain ⟨i0, hi, hz0, hz1, hz2⟩ := info_parts info8
  have hz2' : i0.bytes = 1 := hz2
  obtain ⟨iF, hF, hF0, hF1, hF2⟩ := info_parts infoF
  have hF2' : iF.bytes = 32 := hF2
  have HL := Lib.hid hL
  have HM := Lib.hid hm
  clear hL hm
  go_enter Try.func4, Try.ntmps4
  go_wp2_with fail
  go_loopw [19] (fun i wr => ∃ k : Nat, k ≤ n ∧ i = .int .i64 (k : Int) ∧ Below w.heap.size w wr) (fun i _ => n - (intOf i).toNat)
  case atStart => exact ⟨0, by omega, rfl, Below.refl _ _⟩
  case round =>
    obtain ⟨k, hk, rfl, hb⟩ := hrel
    by_cases hlt : k < n
    · obtain ⟨b1, o1, e, rfl, hb1, he, hmem, k1, k2, k3, hs⟩ := (HL.out.below hb (Nat.le_refl _)).at_ hlt
      have hlp := len_le hs
      have ht : decide ((k : Int) < (n : Int)) = true := by simp; omega
      have i1 : (0 : Int) ≤ (k : Int) := by omega
      have i2 : (k : Int) < (n : Int) := by omega
      have hsz := hb.size
      have HB := Lib.hid hb
      have HAW := Lib.hid (awake_any (wr.alloc (.cells (frC e.x e.ap e.cp) 25)))
      obtain ⟨⟨tx, un, p⟩, ap, cp⟩ := e
      simp only at k1 k2 k3 HAW hlp
      clear hs he hmem hb
      by_cases h300 : 300 < p.length
      · have t3 : decide (300 < (p.length : Int)) = true := by simp; omega
        clear h300
        go_wp2_with fail
        refine HAW.out.mono ?_
        rintro en w1 ⟨rfl, hb1⟩
        have HB1 := Lib.hid ((HB.out.alloc hsz (.cells (frC ⟨tx, un, p⟩ ap cp) 25)).trans (hb1.mono (by simp; omega)))
        clear hb1
        go_wp2_with fail
        go_ret
        exact ⟨ret_bool rfl, HB1.out⟩
      · have t3 : decide (300 < (p.length : Int)) = false := by simp; omega
        clear HAW
        go_wp2_with fail
        go_roundw
        case rel => exact ⟨k + 1, by omega, by go_num, HB.out.alloc hsz _⟩
        case measure => simp [intOf]; omega
    · obtain rfl : k = n := by omega
      have ht : decide ((k : Int) < (k : Int)) = false := by simp
      have HPA := Lib.hid (packed_any a k c es wr ((HL.out.below hb (Nat.le_refl _)).more hb.size))
      have HB := Lib.hid hb
      clear hb
      go_wp2_with fail
      refine HPA.out.mono ?_
      rintro en w1 ⟨v, u, rfl, hov, hou, hb1⟩
      have hw1 := HB.out.trans (hb1.mono HB.out.size)
      have hgl := good_len (es.take 12)
      have hgr := good_right (es.take 12)
      have hfl := flatM_len hgr
      rw [List.length_take] at hgl
      have hpd : ∀ e ∈ good (es.take 12), Sl b8 w1 w1.heap.size e.ap e.x.pdu.length e.cp e.x.pdu := fun e he => ((HL.out.2.2.2.2 e (List.mem_of_mem_take (List.mem_filter.1 he).1)).below hw1 (Nat.le_refl _)).more hw1.size
      obtain ⟨av, cv, rfl, hfr⟩ := FrsAt.of_ownM hov rfl hpd
      obtain ⟨au, cu, rfl, hsu⟩ := Sl.of_own hou
      have hnE : (good (es.take 12)).length ≤ 12 := by omega
      have hnF : (flatM (good (es.take 12))).length ≤ 3120 := by omega
      have HE : Hid (∀ e ∈ good (es.take 12), Right e.x) := hgr
      generalize good (es.take 12) = E at *
      have HW1 := Lib.hid hw1
      have HFR := Lib.hid hfr
      have HSU := Lib.hid hsu
      have hnu := hsu.nle
      have hcu : cu ≤ 9223372036854775807 := by have := hsu.cle; unfold maxLen at this; exact this
      have hzw := hw1.size
      have hER : ∀ x ∈ E.map Fm.x, Right x := fun x hx => by obtain ⟨e, he, rfl⟩ := List.mem_map.1 hx; exact HE.out e he
      have HS := Lib.hid (show Mid (flatM E) (E.map Fm.x) nm w1 (.slice none 0 0) (.slice none 0 0) (.int .i64 0) (.int .i64 0) w1 from
        ⟨0, 0, [], E.map Fm.x, [], Nat.zero_le _, Nat.zero_le _, fun _ => Nat.zero_le _, rfl, rfl, World.ownsRow_nil _ _ _ _, ⟨(fun e h => by cases h), (fun e h => by cases h), (fun e h => by cases h)⟩, World.ownsRow_nil _ _ _ _, Below.refl _ _, rfl, hER, rfl, by simp [first]⟩)
      have HER := Lib.hid hER
      clear hov hou hb1 hw1 hgl hgr hfl hpd hfr hsu HPA HB HL hER ht hlt
      go_wp2_with fail
      go_loopw [9, 10, 11, 12] (Mid (flatM E) (E.map Fm.x) nm w1) (fun _ _ _ i _ => nm + 2 - (intOf i).toNat)
      case atStart => exact HS.out
      case round =>
        have hrel := hrel
        unfold Mid at hrel
        obtain ⟨kk, i, G, K, L, hkB, hin, hik, rfl, rfl, hoG, ⟨hpG, hpA, hpB⟩, hoL, hbw, hFK, hKR, hLf, hfst⟩ := hrel
        by_cases hlt : kk < (flatM E).length
        · have ht : decide ((kk : Int) < ((flatM E).length : Int)) = true := by simp; omega
          have hi2 := hik hlt
          have hzb := hbw.size
          have hLl : L.length ≤ 3120 := by
            have h1 := congrArg List.length hLf
            have h2 := congrArg (fun l => (flat l).length) hFK
            simp only [flat_append, List.length_append] at h2
            rw [List.length_append] at h1
            have h3 : (flatM E).length = (flat (E.map Fm.x)).length := rfl
            omega
          have hGl : G.length ≤ 12 := by have := congrArg List.length hFK; simp at this; omega
          obtain ⟨bb, off, rfl, hbb, hcu2⟩ := HSU.out.cells (by omega)
          have HSU2 := Lib.hid (HSU.out.below hbw (Nat.le_refl _))
          have HOG := Lib.hid hoG
          have HPG := Lib.hid hpG
          have HPA := Lib.hid hpA
          have HPB := Lib.hid hpB
          have HOL := Lib.hid hoL
          have HBW := Lib.hid hbw
          have HFK := Lib.hid hFK
          have HKR := Lib.hid hKR
          have HLF := Lib.hid hLf
          have t5 : decide ((nm : Int) + 1 < (i : Int)) = false := by simp; omega
          have t5b : decide (nm + 1 < i) = false := by simp; omega
          have t5c : (i : Int) ≤ (nm : Int) + 1 := by omega
          clear hoG hpG hpA hpB hoL hbw hFK hKR hLf hfst hrel hcu2 hik HS
          by_cases hip : i < nm
          · obtain ⟨b2, o2, y, rfl, hb2, hy, hcy⟩ := ((HM.out.below HW1.out (Nat.le_refl _)).below HBW.out hzw).at_ hip
            have hy8 := y.toNat_lt
            have t6 : decide ((i : Int) < (nm : Int)) = true := by simp; omega
            have i1 : (0 : Int) ≤ (i : Int) := by omega
            have i2 : (i : Int) < (nm : Int) := by omega
            obtain ⟨nn, hnn⟩ : ∃ nn : Nat, nn = min ((flatM E).length - kk) y.toNat := ⟨_, rfl⟩
            have hnn1 : kk + nn ≤ (flatM E).length := by omega
            have j6 : (if (y.toNat : Int) < ((flatM E).length : Int) - (kk : Int) then (y.toNat : Int) else ((flatM E).length : Int) - (kk : Int)) = (nn : Int) := by split <;> omega
            have hpart : Sl b8 wr w1.heap.size (some ⟨bb, off + kk, none⟩) nn (cu - kk) (((flatM E).drop kk).take nn) := part_at HSU2.out hnn1 (by omega)
            have hend : kk + nn < (flatM E).length → i + 1 ≤ nm := fun _ => by omega
            clear hy hnn
            go_upto_region 16 with (fail)
            have q1 : (0 : Int) ≤ (kk : Int) := by omega
            have q2 : (kk : Int) ≤ (kk : Int) + (nn : Int) := by omega
            have q3 : (kk : Int) + (nn : Int) ≤ (cu : Int) := by omega
            have q5 : ¬ cu = kk := by omega
            have q4 : ((kk : Int) + (nn : Int)).toNat = kk + nn := by omega
            have HPT := Lib.hid hpart
            have HEND := Lib.hid hend
            clear hpart hend
            go_wp2_with (at_builtin; (refine wpList_append_list (f := b8) b8_one rfl (.tmp 55) (.tmp 61) 23 rfl w1.heap.size 5 i0 (.int .u8 0) 1 Try.underlying23 hi hz0 hz1 hz2' rfl u10 L.length (L.map b8) rfl HOL.out (some ⟨bb, off + kk, none⟩) nn (cu - kk) rfl HPT.out (by unfold maxLen; omega) (by omega) hzb ?_; intro v5 w5 hown5 hg5; rw [← List.map_append] at hown5; have HO5 := Lib.hid hown5; have HG5 := Lib.hid (HOG.out.kept hg5.grown (own_ne HOL.out HOG.out (by decide))); have HB5 := Lib.hid (Grew.below HBW.out hg5 hzb (fun k hk => (HOL.out.lt k hk).1)); have HP5 := Lib.hid (HPG.out.grew hg5 HPB.out); have HPB5 := Lib.hid (Apart.grew HPG.out hg5 HPB.out); have hy5 := hg5.size; clear hown5 hg5))
            have q7 : ¬ ((nm : Int) + 1 < (i : Int)) := by omega
            have q8 : (nm : Int) + 1 ≤ 9223372036854775807 := by omega
            go_wp2_with fail
            have HNE := Lib.hid (own_apart HO5.out HG5.out (by decide))
            have HFM := Lib.hid (own_form HO5.out)
            obtain ⟨a5, c5, rfl, hs5⟩ := Sl.of_own HO5.out
            obtain ⟨m5, s5, hc5⟩ := cuts_all (L ++ ((flatM E).drop kk).take nn)
            obtain ⟨hbg5, hf5, K5, hK5, hKR5, hLf5⟩ := stream_part (G := G.map Fm.x) HKR.out HLF.out hc5
            have hsl5 := cuts_suffix hc5
            have hlen5 := hs5.len
            have hnn3 : nn ≤ 3120 := by omega
            obtain ⟨uu, huu⟩ : ∃ uu : Nat, uu = (L.length + nn) - s5.length := ⟨_, rfl⟩
            have hm5 : G.length + m5.length ≤ 12 := by
              have h1 := congrArg List.length (HFK.out.trans hK5)
              simp only [List.length_map, List.length_append] at h1
              omega
            refine (Cut_in (k := (uu : Int)) (e := 0) hs5 (by omega) hc5 (by rw [hlen5]; omega) (by rw [hbg5]; rfl)).mono ?_
            rintro en w8 ⟨a8, c8, es8, rfl, hes8, hF8, hb8, hnil8, hp8, hfr8⟩
            have hz58 := hb8.size
            have HF8 := Lib.hid hF8
            have HB8 := Lib.hid (HB5.out.trans (hb8.mono (by omega)))
            have HG8 := Lib.hid (own_below HG5.out hb8)
            have HP8 := Lib.hid ((HP5.out.below hb8).append hp8)
            have hA8 : Apart (G ++ es8) u9 := HPA.out.append fun f hf y hy e2 => by have h1 := hfr8 f hf y hy; have h2 := (HG5.out.lt _ e2).2; omega
            have HA8 := Lib.hid hA8
            have HL8 := Lib.hid (hs5.below hb8 (Nat.le_refl _))
            have HM8 := Lib.hid (And.intro (HFK.out.trans hK5) (And.intro hKR5 (And.intro hLf5 (And.intro hf5 hes8))))
            have HNIL := Lib.hid hnil8
            have HSFX := Lib.hid ((cuts_iff.1 hc5).1)
            have u1 : decide ((uu : Int) < 0) = false := by simp
            have u2 : decide (((L.length + nn : Nat) : Int) < (uu : Int)) = false := by simp; omega
            have u2' : decide ((L.length : Int) + (nn : Int) < (uu : Int)) = false := by simp; omega
            have huu2 : uu ≤ L.length + nn := by omega
            have hs5n : s5.length = L.length + nn - uu := by omega
            have HUU := Lib.hid huu
            have HSN := Lib.hid hs5n
            clear hs5 hc5 hbg5 hf5 hK5 hKR5 hLf5 hlen5 huu hes8 hF8 hb8 hnil8 hp8 hfr8 hA8 HO5 HG5 HB5 HP5 HPB5 hs5n HOG HPG HPA HPB HOL HBW HFK HKR HLF HPT
            go_wp2_with fail
            have hnc5 := HL8.out.nle
            have hcc5 := HL8.out.cle
            have hz18 : w1.heap.size ≤ w8.heap.size := HB8.out.size
            have w1' : (0 : Int) ≤ (uu : Int) := by omega
            have w2' : (uu : Int) ≤ (L.length : Int) + (nn : Int) := by omega
            have w3' : (L.length : Int) + (nn : Int) ≤ (c5 : Int) := by omega
            have w4' : (uu : Int) ≤ ((L.length + nn : Nat) : Int) := by omega
            have w5' : ((L.length + nn : Nat) : Int) ≤ (c5 : Int) := by omega
            have HPL : Hid (Plan (flatM E) (E.map Fm.x) nm kk nn i (G ++ es8) K5 s5) := Lib.hid ⟨by omega, by omega, HEND.out, by rw [HM8.out.1, List.map_append, HM8.out.2.2.2.2], HM8.out.2.1, HM8.out.2.2.1, HM8.out.2.2.2.1⟩
            by_cases hq : c5 = uu
            · have HLP : Hid (Sl b8 w8.drew w8.drew.heap.size a5 (L.length + nn - uu) 0 s5) := Lib.hid (by
                have h := (left_part HL8.out HSFX.out HUU.out).more hz58
                rw [if_pos hq, hq, Nat.sub_self] at h
                exact h)
              have HNE2 := Lib.hid (HNE.out a5 _ _ rfl)
              have HG8d := Lib.hid (show w8.drew.ownsRow w1.heap.size 25 3 u9 G.length (rowM G) from HG8.out)
              have HP8d := Lib.hid (show Pdus w8.drew (G ++ es8) from HP8.out)
              have HB8d := Lib.hid (show Below w1.heap.size w1 w8.drew from below_drawn HB8.out 1)
              have HF8d := Lib.hid (show FrsAt w8.drew w8.drew.heap.size a8 m5.length c8 es8 from HF8.out)
              have hz18d : w1.heap.size ≤ w8.drew.heap.size := hz18
              go_region_held3 (fun _ => True)
                (first
                  | trivial
                  | go_keep)
                (first
                  | (refine step_append_frs (by rfl) (.tmp 89) (.tmp 90) 35 (by rfl) w1.heap.size 25 iF (.agg zeroF) 32 Try.underlying35 hF hF0 hF1 hF2' (by rfl) u9 G.length (rowM G) (by rfl) HG8d.out a8 m5.length c8 (by rfl) HF8d.out HNIL.out (by unfold maxLen; omega) (by omega) hz18d ?_; intro v9 w9 hown9 hg9; have HOA := Lib.hid hown9; have HGA := Lib.hid hg9; have HSA := Lib.hid ((HLP.out.grew hg9 HNE2.out).below ((Below.refl w9.heap.size w9).alloc (Nat.le_refl _) (.cells #[] 5)) hg9.size); clear hown9 hg9)
                  | (refine step_append_frs (by rfl) (.tmp 89) (.tmp 90) 35 (by rfl) w1.heap.size 25 iF (.agg zeroF) 32 Try.underlying35 hF hF0 hF1 hF2' (by rfl) u9 G.length (rowM G) (by rfl) (HG8d.out.alloc (.cells #[] 5)) a8 m5.length c8 (by rfl) (frs_alloc HF8d.out _) HNIL.out (by unfold maxLen; omega) (by omega) (by simp; omega) ?_; intro v9 w9 hown9 hg9; have HOB := Lib.hid hown9; have HGB := Lib.hid hg9; have HRB := Lib.hid ((World.ownsRow_made (e := 5) (size := 1) w8.drew #[] 0 (Nat.le_refl _) (by unfold maxLen; omega) rfl).kept hg9.grown (own_ne (HG8d.out.alloc (.cells #[] 5)) (World.ownsRow_made (e := 5) (size := 1) w8.drew #[] 0 (Nat.le_refl _) (by unfold maxLen; omega) rfl) (by decide))); have HSB := Lib.hid ((HLP.out.below ((Below.refl w8.drew.heap.size w8.drew).alloc (Nat.le_refl _) (.cells #[] 5)) (Nat.le_refl _)).grew hg9 HNE2.out); clear hown9 hg9)
                  | (revert HOA; intro HOA; go_loud (refine step_append_any (f := b8) b8_one (by rfl) (.tmp 92) (.tmp 95) 23 (by rfl) w9.heap.size 5 i0 (.int .u8 0) 1 Try.underlying23 hi hz0 hz1 hz2' rfl (.slice (some ⟨w9.heap.size, 0, none⟩) 0 0) 0 [] (by rfl) (World.ownsRow_made w9 #[] 0 (Nat.le_refl _) (by unfold maxLen; omega) rfl) a5 (L.length + nn - uu) (0) (by rfl) HSA.out (by unfold maxLen; omega) (by omega) (by simp) ?_; intro v10 w10 hown10 hg10; simp only [Nat.zero_add, List.nil_append] at hown10; have HMID := Lib.hid (mid_A HG8d.out HP8d.out HA8.out HB8d.out HOA.out HGA.out hown10 hg10 HPL.out); clear hown10 hg10))
                  | (revert HOB; intro HOB; go_loud (refine step_append_any (f := b8) b8_one (by rfl) (.tmp 92) (.tmp 95) 23 (by rfl) w8.drew.heap.size 5 i0 (.int .u8 0) 1 Try.underlying23 hi hz0 hz1 hz2' rfl (.slice (some ⟨w8.drew.heap.size, 0, none⟩) 0 0) 0 [] (by rfl) HRB.out a5 (L.length + nn - uu) (0) (by rfl) HSB.out (by unfold maxLen; omega) (by omega) (by have h := HGB.out.size; simp at h; show w8.heap.size ≤ w9.heap.size; omega) ?_; intro v10 w10 hown10 hg10; simp only [Nat.zero_add, List.nil_append] at hown10; have HMID := Lib.hid (mid_B HG8d.out HP8d.out HA8.out HB8d.out HOB.out HGB.out HRB.out hown10 hg10 HPL.out); clear hown10 hg10)))
              all_goals
                go_wp2_with fail
                go_roundw
                case rel => exact HMID.out
                case measure => simp [intOf]; omega
            · rcases HFM.out with ⟨g5, c55, h5⟩ | h5
              · injection h5 with h5 h5b h5c
                subst h5
                subst h5c
                clear h5b
                have HLP : Hid (Sl b8 w8.drew w8.drew.heap.size (some ⟨g5, uu, none⟩) (L.length + nn - uu) (c5 - uu) s5) := Lib.hid ((left_some HL8.out HSFX.out HUU.out hq).more hz58)
                have HNE2 : Hid (∀ x : Addr, some (⟨g5, uu, none⟩ : Addr) = some x → u9.ownBlock ≠ some x.block) := Lib.hid (fun x hx => by
                  injection hx with hx
                  subst hx
                  exact HNE.out _ _ _ rfl ⟨g5, 0, none⟩ rfl)
                have HG8d := Lib.hid (show w8.drew.ownsRow w1.heap.size 25 3 u9 G.length (rowM G) from HG8.out)
                have HP8d := Lib.hid (show Pdus w8.drew (G ++ es8) from HP8.out)
                have HB8d := Lib.hid (show Below w1.heap.size w1 w8.drew from below_drawn HB8.out 1)
                have HF8d := Lib.hid (show FrsAt w8.drew w8.drew.heap.size a8 m5.length c8 es8 from HF8.out)
                have hz18d : w1.heap.size ≤ w8.drew.heap.size := hz18
                go_region_held3 (fun _ => True)
                  (first
                    | trivial
                    | go_keep)
                  (first
                    | (refine step_append_frs (by rfl) (.tmp 89) (.tmp 90) 35 (by rfl) w1.heap.size 25 iF (.agg zeroF) 32 Try.underlying35 hF hF0 hF1 hF2' (by rfl) u9 G.length (rowM G) (by rfl) HG8d.out a8 m5.length c8 (by rfl) HF8d.out HNIL.out (by unfold maxLen; omega) (by omega) hz18d ?_; intro v9 w9 hown9 hg9; have HOA := Lib.hid hown9; have HGA := Lib.hid hg9; have HSA := Lib.hid ((HLP.out.grew hg9 HNE2.out).below ((Below.refl w9.heap.size w9).alloc (Nat.le_refl _) (.cells #[] 5)) hg9.size); clear hown9 hg9)
                    | (refine step_append_frs (by rfl) (.tmp 89) (.tmp 90) 35 (by rfl) w1.heap.size 25 iF (.agg zeroF) 32 Try.underlying35 hF hF0 hF1 hF2' (by rfl) u9 G.length (rowM G) (by rfl) (HG8d.out.alloc (.cells #[] 5)) a8 m5.length c8 (by rfl) (frs_alloc HF8d.out _) HNIL.out (by unfold maxLen; omega) (by omega) (by simp; omega) ?_; intro v9 w9 hown9 hg9; have HOB := Lib.hid hown9; have HGB := Lib.hid hg9; have HRB := Lib.hid ((World.ownsRow_made (e := 5) (size := 1) w8.drew #[] 0 (Nat.le_refl _) (by unfold maxLen; omega) rfl).kept hg9.grown (own_ne (HG8d.out.alloc (.cells #[] 5)) (World.ownsRow_made (e := 5) (size := 1) w8.drew #[] 0 (Nat.le_refl _) (by unfold maxLen; omega) rfl) (by decide))); have HSB := Lib.hid ((HLP.out.below ((Below.refl w8.drew.heap.size w8.drew).alloc (Nat.le_refl _) (.cells #[] 5)) (Nat.le_refl _)).grew hg9 HNE2.out); clear hown9 hg9)
                    | (revert HOA; intro HOA; go_loud (refine step_append_any (f := b8) b8_one (by rfl) (.tmp 92) (.tmp 95) 23 (by rfl) w9.heap.size 5 i0 (.int .u8 0) 1 Try.underlying23 hi hz0 hz1 hz2' rfl (.slice (some ⟨w9.heap.size, 0, none⟩) 0 0) 0 [] (by rfl) (World.ownsRow_made w9 #[] 0 (Nat.le_refl _) (by unfold maxLen; omega) rfl) (some ⟨g5, uu, none⟩) (L.length + nn - uu) (c5 - uu) (by rfl) HSA.out (by unfold maxLen; omega) (by omega) (by simp) ?_; intro v10 w10 hown10 hg10; simp only [Nat.zero_add, List.nil_append] at hown10; have HMID := Lib.hid (mid_A HG8d.out HP8d.out HA8.out HB8d.out HOA.out HGA.out hown10 hg10 HPL.out); clear hown10 hg10))
                    | (revert HOB; intro HOB; go_loud (refine step_append_any (f := b8) b8_one (by rfl) (.tmp 92) (.tmp 95) 23 (by rfl) w8.drew.heap.size 5 i0 (.int .u8 0) 1 Try.underlying23 hi hz0 hz1 hz2' rfl (.slice (some ⟨w8.drew.heap.size, 0, none⟩) 0 0) 0 [] (by rfl) HRB.out (some ⟨g5, uu, none⟩) (L.length + nn - uu) (c5 - uu) (by rfl) HSB.out (by unfold maxLen; omega) (by omega) (by have h := HGB.out.size; simp at h; show w8.heap.size ≤ w9.heap.size; omega) ?_; intro v10 w10 hown10 hg10; simp only [Nat.zero_add, List.nil_append] at hown10; have HMID := Lib.hid (mid_B HG8d.out HP8d.out HA8.out HB8d.out HOB.out HGB.out HRB.out hown10 hg10 HPL.out); clear hown10 hg10)))
                all_goals
                  go_wp2_with fail
                  go_roundw
                  case rel => exact HMID.out
                  case measure => simp [intOf]; omega
              · exfalso; injection h5 with h5 h5b h5c; omega
          · have t6 : decide ((i : Int) < (nm : Int)) = false := by simp; omega
            obtain ⟨nn, hnn⟩ : ∃ nn : Nat, nn = (flatM E).length - kk := ⟨_, rfl⟩
            have hnn1 : kk + nn ≤ (flatM E).length := by omega
            have HNN := Lib.hid (show ((flatM E).length : Int) - (kk : Int) = (nn : Int) by omega)
            have hpart : Sl b8 wr w1.heap.size (some ⟨bb, off + kk, none⟩) nn (cu - kk) (((flatM E).drop kk).take nn) := part_at HSU2.out hnn1 (by omega)
            have hend : kk + nn < (flatM E).length → i + 1 ≤ nm := fun _ => by omega
            clear hnn
            go_upto_region 16 with (fail)
            rw [HNN.out]
            clear HNN
            have q1 : (0 : Int) ≤ (kk : Int) := by omega
            have q2 : (kk : Int) ≤ (kk : Int) + (nn : Int) := by omega
            have q3 : (kk : Int) + (nn : Int) ≤ (cu : Int) := by omega
            have q5 : ¬ cu = kk := by omega
            have q4 : ((kk : Int) + (nn : Int)).toNat = kk + nn := by omega
            have HPT := Lib.hid hpart
            have HEND := Lib.hid hend
            clear hpart hend
            go_wp2_with (at_builtin; (refine wpList_append_list (f := b8) b8_one rfl (.tmp 55) (.tmp 61) 23 rfl w1.heap.size 5 i0 (.int .u8 0) 1 Try.underlying23 hi hz0 hz1 hz2' rfl u10 L.length (L.map b8) rfl HOL.out (some ⟨bb, off + kk, none⟩) nn (cu - kk) rfl HPT.out (by unfold maxLen; omega) (by omega) hzb ?_; intro v5 w5 hown5 hg5; rw [← List.map_append] at hown5; have HO5 := Lib.hid hown5; have HG5 := Lib.hid (HOG.out.kept hg5.grown (own_ne HOL.out HOG.out (by decide))); have HB5 := Lib.hid (Grew.below HBW.out hg5 hzb (fun k hk => (HOL.out.lt k hk).1)); have HP5 := Lib.hid (HPG.out.grew hg5 HPB.out); have HPB5 := Lib.hid (Apart.grew HPG.out hg5 HPB.out); have hy5 := hg5.size; clear hown5 hg5))
            have q7 : ¬ ((nm : Int) + 1 < (i : Int)) := by omega
            have q8 : (nm : Int) + 1 ≤ 9223372036854775807 := by omega
            go_wp2_with fail
            have HNE := Lib.hid (own_apart HO5.out HG5.out (by decide))
            have HFM := Lib.hid (own_form HO5.out)
            obtain ⟨a5, c5, rfl, hs5⟩ := Sl.of_own HO5.out
            obtain ⟨m5, s5, hc5⟩ := cuts_all (L ++ ((flatM E).drop kk).take nn)
            obtain ⟨hbg5, hf5, K5, hK5, hKR5, hLf5⟩ := stream_part (G := G.map Fm.x) HKR.out HLF.out hc5
            have hsl5 := cuts_suffix hc5
            have hlen5 := hs5.len
            have hnn3 : nn ≤ 3120 := by omega
            obtain ⟨uu, huu⟩ : ∃ uu : Nat, uu = (L.length + nn) - s5.length := ⟨_, rfl⟩
            have hm5 : G.length + m5.length ≤ 12 := by
              have h1 := congrArg List.length (HFK.out.trans hK5)
              simp only [List.length_map, List.length_append] at h1
              omega
            refine (Cut_in (k := (uu : Int)) (e := 0) hs5 (by omega) hc5 (by rw [hlen5]; omega) (by rw [hbg5]; rfl)).mono ?_
            rintro en w8 ⟨a8, c8, es8, rfl, hes8, hF8, hb8, hnil8, hp8, hfr8⟩
            have hz58 := hb8.size
            have HF8 := Lib.hid hF8
            have HB8 := Lib.hid (HB5.out.trans (hb8.mono (by omega)))
            have HG8 := Lib.hid (own_below HG5.out hb8)
            have HP8 := Lib.hid ((HP5.out.below hb8).append hp8)
            have hA8 : Apart (G ++ es8) u9 := HPA.out.append fun f hf y hy e2 => by have h1 := hfr8 f hf y hy; have h2 := (HG5.out.lt _ e2).2; omega
            have HA8 := Lib.hid hA8
            have HL8 := Lib.hid (hs5.below hb8 (Nat.le_refl _))
            have HM8 := Lib.hid (And.intro (HFK.out.trans hK5) (And.intro hKR5 (And.intro hLf5 (And.intro hf5 hes8))))
            have HNIL := Lib.hid hnil8
            have HSFX := Lib.hid ((cuts_iff.1 hc5).1)
            have u1 : decide ((uu : Int) < 0) = false := by simp
            have u2 : decide (((L.length + nn : Nat) : Int) < (uu : Int)) = false := by simp; omega
            have u2' : decide ((L.length : Int) + (nn : Int) < (uu : Int)) = false := by simp; omega
            have huu2 : uu ≤ L.length + nn := by omega
            have hs5n : s5.length = L.length + nn - uu := by omega
            have HUU := Lib.hid huu
            have HSN := Lib.hid hs5n
            clear hs5 hc5 hbg5 hf5 hK5 hKR5 hLf5 hlen5 huu hes8 hF8 hb8 hnil8 hp8 hfr8 hA8 HO5 HG5 HB5 HP5 HPB5 hs5n HOG HPG HPA HPB HOL HBW HFK HKR HLF HPT
            go_wp2_with fail
            have hnc5 := HL8.out.nle
            have hcc5 := HL8.out.cle
            have hz18 : w1.heap.size ≤ w8.heap.size := HB8.out.size
            have w1' : (0 : Int) ≤ (uu : Int) := by omega
            have w2' : (uu : Int) ≤ (L.length : Int) + (nn : Int) := by omega
            have w3' : (L.length : Int) + (nn : Int) ≤ (c5 : Int) := by omega
            have w4' : (uu : Int) ≤ ((L.length + nn : Nat) : Int) := by omega
            have w5' : ((L.length + nn : Nat) : Int) ≤ (c5 : Int) := by omega
            have HPL : Hid (Plan (flatM E) (E.map Fm.x) nm kk nn i (G ++ es8) K5 s5) := Lib.hid ⟨by omega, by omega, HEND.out, by rw [HM8.out.1, List.map_append, HM8.out.2.2.2.2], HM8.out.2.1, HM8.out.2.2.1, HM8.out.2.2.2.1⟩
            by_cases hq : c5 = uu
            · have HLP : Hid (Sl b8 w8.drew w8.drew.heap.size a5 (L.length + nn - uu) 0 s5) := Lib.hid (by
                have h := (left_part HL8.out HSFX.out HUU.out).more hz58
                rw [if_pos hq, hq, Nat.sub_self] at h
                exact h)
              have HNE2 := Lib.hid (HNE.out a5 _ _ rfl)
              have HG8d := Lib.hid (show w8.drew.ownsRow w1.heap.size 25 3 u9 G.length (rowM G) from HG8.out)
              have HP8d := Lib.hid (show Pdus w8.drew (G ++ es8) from HP8.out)
              have HB8d := Lib.hid (show Below w1.heap.size w1 w8.drew from below_drawn HB8.out 1)
              have HF8d := Lib.hid (show FrsAt w8.drew w8.drew.heap.size a8 m5.length c8 es8 from HF8.out)
              have hz18d : w1.heap.size ≤ w8.drew.heap.size := hz18
              go_region_held3 (fun _ => True)
                (first
                  | trivial
                  | go_keep)
                (first
                  | (refine step_append_frs (by rfl) (.tmp 89) (.tmp 90) 35 (by rfl) w1.heap.size 25 iF (.agg zeroF) 32 Try.underlying35 hF hF0 hF1 hF2' (by rfl) u9 G.length (rowM G) (by rfl) HG8d.out a8 m5.length c8 (by rfl) HF8d.out HNIL.out (by unfold maxLen; omega) (by omega) hz18d ?_; intro v9 w9 hown9 hg9; have HOA := Lib.hid hown9; have HGA := Lib.hid hg9; have HSA := Lib.hid ((HLP.out.grew hg9 HNE2.out).below ((Below.refl w9.heap.size w9).alloc (Nat.le_refl _) (.cells #[] 5)) hg9.size); clear hown9 hg9)
                  | (refine step_append_frs (by rfl) (.tmp 89) (.tmp 90) 35 (by rfl) w1.heap.size 25 iF (.agg zeroF) 32 Try.underlying35 hF hF0 hF1 hF2' (by rfl) u9 G.length (rowM G) (by rfl) (HG8d.out.alloc (.cells #[] 5)) a8 m5.length c8 (by rfl) (frs_alloc HF8d.out _) HNIL.out (by unfold maxLen; omega) (by omega) (by simp; omega) ?_; intro v9 w9 hown9 hg9; have HOB := Lib.hid hown9; have HGB := Lib.hid hg9; have HRB := Lib.hid ((World.ownsRow_made (e := 5) (size := 1) w8.drew #[] 0 (Nat.le_refl _) (by unfold maxLen; omega) rfl).kept hg9.grown (own_ne (HG8d.out.alloc (.cells #[] 5)) (World.ownsRow_made (e := 5) (size := 1) w8.drew #[] 0 (Nat.le_refl _) (by unfold maxLen; omega) rfl) (by decide))); have HSB := Lib.hid ((HLP.out.below ((Below.refl w8.drew.heap.size w8.drew).alloc (Nat.le_refl _) (.cells #[] 5)) (Nat.le_refl _)).grew hg9 HNE2.out); clear hown9 hg9)
                  | (revert HOA; intro HOA; go_loud (refine step_append_any (f := b8) b8_one (by rfl) (.tmp 92) (.tmp 95) 23 (by rfl) w9.heap.size 5 i0 (.int .u8 0) 1 Try.underlying23 hi hz0 hz1 hz2' rfl (.slice (some ⟨w9.heap.size, 0, none⟩) 0 0) 0 [] (by rfl) (World.ownsRow_made w9 #[] 0 (Nat.le_refl _) (by unfold maxLen; omega) rfl) a5 (L.length + nn - uu) (0) (by rfl) HSA.out (by unfold maxLen; omega) (by omega) (by simp) ?_; intro v10 w10 hown10 hg10; simp only [Nat.zero_add, List.nil_append] at hown10; have HMID := Lib.hid (mid_A HG8d.out HP8d.out HA8.out HB8d.out HOA.out HGA.out hown10 hg10 HPL.out); clear hown10 hg10))
                  | (revert HOB; intro HOB; go_loud (refine step_append_any (f := b8) b8_one (by rfl) (.tmp 92) (.tmp 95) 23 (by rfl) w8.drew.heap.size 5 i0 (.int .u8 0) 1 Try.underlying23 hi hz0 hz1 hz2' rfl (.slice (some ⟨w8.drew.heap.size, 0, none⟩) 0 0) 0 [] (by rfl) HRB.out a5 (L.length + nn - uu) (0) (by rfl) HSB.out (by unfold maxLen; omega) (by omega) (by have h := HGB.out.size; simp at h; show w8.heap.size ≤ w9.heap.size; omega) ?_; intro v10 w10 hown10 hg10; simp only [Nat.zero_add, List.nil_append] at hown10; have HMID := Lib.hid (mid_B HG8d.out HP8d.out HA8.out HB8d.out HOB.out HGB.out HRB.out hown10 hg10 HPL.out); clear hown10 hg10)))
              all_goals
                go_wp2_with fail
                go_roundw
                case rel => exact HMID.out
                case measure => simp [intOf]; omega
            · rcases HFM.out with ⟨g5, c55, h5⟩ | h5
              · injection h5 with h5 h5b h5c
                subst h5
                subst h5c
                clear h5b
                have HLP : Hid (Sl b8 w8.drew w8.drew.heap.size (some ⟨g5, uu, none⟩) (L.length + nn - uu) (c5 - uu) s5) := Lib.hid ((left_some HL8.out HSFX.out HUU.out hq).more hz58)
                have HNE2 : Hid (∀ x : Addr, some (⟨g5, uu, none⟩ : Addr) = some x → u9.ownBlock ≠ some x.block) := Lib.hid (fun x hx => by
                  injection hx with hx
                  subst hx
                  exact HNE.out _ _ _ rfl ⟨g5, 0, none⟩ rfl)
                have HG8d := Lib.hid (show w8.drew.ownsRow w1.heap.size 25 3 u9 G.length (rowM G) from HG8.out)
                have HP8d := Lib.hid (show Pdus w8.drew (G ++ es8) from HP8.out)
                have HB8d := Lib.hid (show Below w1.heap.size w1 w8.drew from below_drawn HB8.out 1)
                have HF8d := Lib.hid (show FrsAt w8.drew w8.drew.heap.size a8 m5.length c8 es8 from HF8.out)
                have hz18d : w1.heap.size ≤ w8.drew.heap.size := hz18
                go_region_held3 (fun _ => True)
                  (first
                    | trivial
                    | go_keep)
                  (first
                    | (refine step_append_frs (by rfl) (.tmp 89) (.tmp 90) 35 (by rfl) w1.heap.size 25 iF (.agg zeroF) 32 Try.underlying35 hF hF0 hF1 hF2' (by rfl) u9 G.length (rowM G) (by rfl) HG8d.out a8 m5.length c8 (by rfl) HF8d.out HNIL.out (by unfold maxLen; omega) (by omega) hz18d ?_; intro v9 w9 hown9 hg9; have HOA := Lib.hid hown9; have HGA := Lib.hid hg9; have HSA := Lib.hid ((HLP.out.grew hg9 HNE2.out).below ((Below.refl w9.heap.size w9).alloc (Nat.le_refl _) (.cells #[] 5)) hg9.size); clear hown9 hg9)
                    | (refine step_append_frs (by rfl) (.tmp 89) (.tmp 90) 35 (by rfl) w1.heap.size 25 iF (.agg zeroF) 32 Try.underlying35 hF hF0 hF1 hF2' (by rfl) u9 G.length (rowM G) (by rfl) (HG8d.out.alloc (.cells #[] 5)) a8 m5.length c8 (by rfl) (frs_alloc HF8d.out _) HNIL.out (by unfold maxLen; omega) (by omega) (by simp; omega) ?_; intro v9 w9 hown9 hg9; have HOB := Lib.hid hown9; have HGB := Lib.hid hg9; have HRB := Lib.hid ((World.ownsRow_made (e := 5) (size := 1) w8.drew #[] 0 (Nat.le_refl _) (by unfold maxLen; omega) rfl).kept hg9.grown (own_ne (HG8d.out.alloc (.cells #[] 5)) (World.ownsRow_made (e := 5) (size := 1) w8.drew #[] 0 (Nat.le_refl _) (by unfold maxLen; omega) rfl) (by decide))); have HSB := Lib.hid ((HLP.out.below ((Below.refl w8.drew.heap.size w8.drew).alloc (Nat.le_refl _) (.cells #[] 5)) (Nat.le_refl _)).grew hg9 HNE2.out); clear hown9 hg9)
                    | (revert HOA; intro HOA; go_loud (refine step_append_any (f := b8) b8_one (by rfl) (.tmp 92) (.tmp 95) 23 (by rfl) w9.heap.size 5 i0 (.int .u8 0) 1 Try.underlying23 hi hz0 hz1 hz2' rfl (.slice (some ⟨w9.heap.size, 0, none⟩) 0 0) 0 [] (by rfl) (World.ownsRow_made w9 #[] 0 (Nat.le_refl _) (by unfold maxLen; omega) rfl) (some ⟨g5, uu, none⟩) (L.length + nn - uu) (c5 - uu) (by rfl) HSA.out (by unfold maxLen; omega) (by omega) (by simp) ?_; intro v10 w10 hown10 hg10; simp only [Nat.zero_add, List.nil_append] at hown10; have HMID := Lib.hid (mid_A HG8d.out HP8d.out HA8.out HB8d.out HOA.out HGA.out hown10 hg10 HPL.out); clear hown10 hg10))
                    | (revert HOB; intro HOB; go_loud (refine step_append_any (f := b8) b8_one (by rfl) (.tmp 92) (.tmp 95) 23 (by rfl) w8.drew.heap.size 5 i0 (.int .u8 0) 1 Try.underlying23 hi hz0 hz1 hz2' rfl (.slice (some ⟨w8.drew.heap.size, 0, none⟩) 0 0) 0 [] (by rfl) HRB.out (some ⟨g5, uu, none⟩) (L.length + nn - uu) (c5 - uu) (by rfl) HSB.out (by unfold maxLen; omega) (by omega) (by have h := HGB.out.size; simp at h; show w8.heap.size ≤ w9.heap.size; omega) ?_; intro v10 w10 hown10 hg10; simp only [Nat.zero_add, List.nil_append] at hown10; have HMID := Lib.hid (mid_B HG8d.out HP8d.out HA8.out HB8d.out HOB.out HGB.out HRB.out hown10 hg10 HPL.out); clear hown10 hg10)))
                all_goals
                  go_wp2_with fail
                  go_roundw
                  case rel => exact HMID.out
                  case measure => simp [intOf]; omega
              · exfalso; injection h5 with h5 h5b h5c; omega
        · obtain rfl : kk = (flatM E).length := by omega
          have ht : decide (((flatM E).length : Int) < ((flatM E).length : Int)) = false := by simp
          have hLf2 : L = flat K := by rw [List.drop_length, List.append_nil] at hLf; exact hLf
          obtain ⟨hK0, hL0⟩ := stream_end hKR hLf2 hfst
          subst hK0
          subst hL0
          rw [List.append_nil] at hFK
          obtain ⟨a10, c10, rfl, hs10⟩ := Sl.of_own (l := ([] : List UInt8)) hoL
          obtain ⟨a9, c9, rfl, hF9⟩ := FrsAt.of_ownM hoG rfl (fun e he => (hpG e he).2)
          have HSY := Lib.hid (same_yes _ _ _ _ _ _ _ _ _ _ wr hF9 (HFR.out.below hbw (Nat.le_refl _)) hFK.symm)
          have HW8 := Lib.hid (HW1.out.trans (hbw.mono hzw))
          clear hoG hpG hpA hpB hoL hbw hFK hKR hLf hLf2 hfst hrel hik HS hs10 hF9 hkB hlt
          go_wp2_with fail
          refine HSY.out.mono ?_
          rintro en w9 ⟨rfl, q9, rfl⟩
          have HAW := Lib.hid (awake_any (wr.drewN q9))
          go_wp2_with fail
          refine HAW.out.mono ?_
          rintro en w10 ⟨rfl, hb10⟩
          have HW9 := Lib.hid (HW8.out.trans ((below_ahead hb10).mono HW8.out.size))
          clear hb10
          go_wp2_with fail
          go_ret
          exact ⟨ret_bool rfl, HW9.out⟩
end Go.Proofs.Yteekdginloljjaa.MbW
