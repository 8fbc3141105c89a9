/- SumJoins, walked. -/
import Derived.Test.YtbiecnopgaghbaaSumZ
import Derived.Test.YtbiecnopgaghbaaSumAwake
import Derived.Test.YtbiecnopgaghbaaSumLawZeros
open Go.RowKit
namespace Go.Proofs.Ytbiecnopgaghbaa.SumW
open SumM Mem

set_option maxHeartbeats 1000000 in
set_option maxRecDepth 100000 in
theorem SumJoins_walk (a1 : Option Addr) (n1 c1 : Nat) (l1 : List UInt8) (a2 : Option Addr) (n2 c2 : Nat) (l2 : List UInt8) (w : World) (h1 : Sl b8 w w.heap.size a1 n1 c1 l1) (h2 : Sl b8 w w.heap.size a2 n2 c2 l2) :
    Calls Try.prog 7 #[.slice a1 n1 c1, .slice a2 n2 c2] w (Says (.bool true) w) := by
  obtain ⟨i0, hi, hz0, hz1, hz2⟩ := info_parts info8
  have hz2' : i0.bytes = 1 := hz2
  have HX := Lib.hid (And.intro hi (And.intro hz0 (And.intro hz1 hz2')))
  clear hi hz0 hz1 hz2 hz2'
  by_cases hn1 : 300 < n1
  · have t1 : decide ((300 : Int) < (n1 : Int)) = true := by simp; omega
    go_enter Try.func7, Try.ntmps7
    go_wp2_with fail
    refine (awake_any _).mono ?_
    rintro e w1 ⟨rfl, b1⟩
    go_wp2
    go_ret
    exact Says.mk b1
  have t1 : decide ((300 : Int) < (n1 : Int)) = false := by simp; omega
  by_cases hn2 : 300 < n2
  · have t2 : decide ((300 : Int) < (n2 : Int)) = true := by simp; omega
    go_enter Try.func7, Try.ntmps7
    go_wp2_with fail
    refine (awake_any _).mono ?_
    rintro e w1 ⟨rfl, b1⟩
    go_wp2
    go_ret
    exact Says.mk b1
  have t2 : decide ((300 : Int) < (n2 : Int)) = false := by simp; omega
  have H1 := Lib.hid h1
  have H2 := Lib.hid h2
  have HL1 := Lib.hid h1.len
  have HL2 := Lib.hid h2.len
  clear h1 h2
  go_enter Try.func7, Try.ntmps7
  go_wp2_with (first
    | (at_builtin; refine wpList_append_list (f := b8) b8_one rfl (.tmp 17) (.tmp 18) 23 rfl w.heap.size 5 i0 (.int .u8 0) 1 Try.underlying23 HX.out.1 HX.out.2.1 HX.out.2.2.1 HX.out.2.2.2 rfl (.slice (some ⟨w.heap.size, 0, none⟩) 0 0) 0 [] rfl (World.ownsRow_made w #[] 0 (Nat.le_refl _) (by unfold maxLen; omega) rfl) a1 n1 c1 rfl (H1.out.alloc (Nat.le_refl _) _) (by unfold maxLen; omega) (by omega) (by simp) ?_; intro v1 w1 hown1 hgrow1; simp only [Nat.zero_add, List.nil_append] at hown1; have HB1 := Lib.hid (Grew.below ((Below.refl w.heap.size w).alloc (Nat.le_refl _) (.cells #[] 5)) hgrow1 (by simp) (by simp [Value.ownBlock])); have HO1 := Lib.hid hown1; clear hown1 hgrow1)
    | (at_builtin; refine wpList_append_list (f := b8) b8_one rfl (.tmp 19) (.tmp 20) 23 rfl w.heap.size 5 i0 (.int .u8 0) 1 Try.underlying23 HX.out.1 HX.out.2.1 HX.out.2.2.1 HX.out.2.2.2 rfl v1 n1 (l1.map b8) rfl HO1.out a2 n2 c2 rfl (H2.out.below HB1.out (Nat.le_refl _)) (by unfold maxLen; omega) (by omega) HB1.out.size ?_; intro v2 w2 hown2 hgrow2; have HB2 := Lib.hid (Grew.below HB1.out hgrow2 HB1.out.size (fun k hk => (HO1.out.lt k hk).1)); have HO2 := Lib.hid hown2; clear hown2 hgrow2; obtain ⟨a3, c3, hv3, s3⟩ := Sl.of_own (f := b8) (l := l1 ++ l2) (by rw [List.map_append]; exact HO2.out); subst hv3; have H3 := Lib.hid s3; clear s3))
  have hX1 := rawN_lt l1 (s := 4294967295) (by omega)
  have hX2 := rawN_lt l2 (s := 0) (by omega)
  have EJ : Hid (shs (8 * n2) (rawN 4294967295 l1) ^^^ rawN 0 l2 = rawN 4294967295 (l1 ++ l2)) := Lib.hid (by rw [rawN_join, HL2.out])
  have EO := Lib.hid (bytesN_own l1)
  have hX := bytesN_lt l1
  have C0 := Lib.hid (raw_any 4294967295 (by omega) a3 (n1 + n2) c3 (l1 ++ l2) _ w2 H3.out)
  have C1 := Lib.hid (raw_any 4294967295 (by omega) a1 n1 c1 l1 _ w2 (H1.out.below HB2.out (Nat.le_refl _)))
  refine C0.out.mono ?_
  rintro e w3 ⟨rfl, rfl⟩
  go_wp2_with fail
  refine C1.out.mono ?_
  rintro e w3 ⟨rfl, rfl⟩
  go_wp2_with fail
  refine (zeros_at hX1 (n := (n2 : Int)) (N := n2) (by omega) rfl (by omega) (by omega) _).mono ?_
  rintro e w3 ⟨rfl, b3⟩
  have HB3 := Lib.hid (HB2.out.trans (b3.mono HB2.out.size))
  have C2 := Lib.hid (raw_any 0 (by omega) a2 n2 c2 l2 _ w3 (H2.out.below HB3.out (Nat.le_refl _)))
  clear b3
  go_wp2_with fail
  refine C2.out.mono ?_
  rintro e w4 ⟨rfl, rfl⟩
  have hx := u32_xor_nat _ _ (shs_lt (8 * n2) hX1) hX2
  rw [EJ.out] at hx
  clear C0 C1 C2
  generalize rawN 4294967295 (l1 ++ l2) = R12 at *
  generalize shs (8 * n2) (rawN 4294967295 l1) = Z at *
  generalize rawN 0 l2 = R2 at *
  have HS1 := Lib.hid (H1.out.below HB3.out (Nat.le_refl _))
  go_wp2_with fail
  refine (Bytes_any a1 n1 c1 l1 _ w3 HS1.out).mono ?_
  rintro e w4 ⟨rfl, rfl⟩
  generalize bytesN l1 = X at *
  clear hx
  have HF : Hid ([Value.int .u8 ((X : Int) % 256), .int .u8 ((X : Int) / 256 % 256), .int .u8 ((X : Int) / 65536 % 256), .int .u8 ((X : Int) / 16777216)] = (four X).map b8) := Lib.hid (by
    simp [four, b8]
    omega)
  go_wp2_with (first
    | (at_builtin; refine wpList_append_list (f := b8) b8_one rfl (.tmp 35) (.tmp 36) 23 rfl w3.heap.size 5 i0 (.int .u8 0) 1 Try.underlying23 HX.out.1 HX.out.2.1 HX.out.2.2.1 HX.out.2.2.2 rfl (.slice (some ⟨w3.heap.size, 0, none⟩) 0 0) 0 [] rfl (World.ownsRow_made w3 #[] 0 (Nat.le_refl _) (by unfold maxLen; omega) rfl) a1 n1 c1 rfl (HS1.out.alloc HB3.out.size _) (by unfold maxLen; omega) (by omega) (by simp) ?_; intro v4 w4 hown4 hgrow4; simp only [Nat.zero_add, List.nil_append] at hown4; have HB4 := Lib.hid (Grew.below ((Below.refl w3.heap.size w3).alloc (Nat.le_refl _) (.cells #[] 5)) hgrow4 (by simp) (by simp [Value.ownBlock])); have HO4 := Lib.hid hown4; clear hown4 hgrow4)
    | (at_builtin; (refine wpList_append_vals rfl (.tmp 37) (.tmp 49) 23 rfl w3.heap.size 5 i0 (.int .u8 0) 1 Try.underlying23 HX.out.1 HX.out.2.1 HX.out.2.2.1 HX.out.2.2.2 rfl v4 n1 (l1.map b8) rfl (HO4.out.alloc _) ⟨w4.heap.size, 0, none⟩ 4 4 _ rfl rfl (new_cells w4 _ _) (by intro u hu; simp at hu; rcases hu with rfl | rfl | rfl | rfl <;> rfl) (by unfold maxLen; omega) (by omega) (by have := HB4.out.size; simp; omega) ?_; intro v5 w5 hown5 hgrow5; have HB5 := Lib.hid (Grew.below (HB4.out.alloc HB4.out.size _) hgrow5 (by have := HB4.out.size; simp; omega) (fun k hk => (HO4.out.lt k hk).1)); have HO5 := Lib.hid hown5; clear hown5 hgrow5)))
  obtain ⟨a5, c5, rfl, s5⟩ := Sl.of_own (f := b8) (l := l1 ++ four X) (by rw [List.map_append, ← HF.out]; exact HO5.out)
  refine (Bytes_any a5 (n1 + 4) c5 (l1 ++ four X) _ w5 s5).mono ?_
  rw [EO.out]
  rintro e w6 ⟨rfl, rfl⟩
  go_wp2_with fail
  refine (Bytes_new _ 4 4 [0, 0, 0, 0] _ (Sl.new _ _ _ _ _ _ rfl rfl (by omega))).mono ?_
  generalize bytesN [0, 0, 0, 0] = K at *
  rintro e w6 ⟨rfl, rfl⟩
  go_wp2_with fail
  refine (awake_any _).mono ?_
  rintro e w7 ⟨rfl, b7⟩
  go_wp2
  go_ret
  have B5 := HB3.out.trans (HB5.out.mono HB3.out.size)
  exact Says.mk (below_next B5 B5.size b7)
end Go.Proofs.Ytbiecnopgaghbaa.SumW
