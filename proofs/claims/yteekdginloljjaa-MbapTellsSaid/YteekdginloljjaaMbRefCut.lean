/- The document's own answer: bytes cut into frames. -/
import Derived.Test.YteekdginloljjaaMbRefParse
import Derived.Test.YteekdginloljjaaMbStream
open Go.RowKit
namespace Go.Proofs.Yteekdginloljjaa.MbW
open MbM Mem

theorem suffix_cases (B : List UInt8) : (longI B = -1 ∧ begunB B = false ∧ first B = none) ∨ (longI B = 0 ∧ begunB B = true ∧ first B = none) ∨
    (∃ L : Nat, longI B = (L : Int) ∧ 8 ≤ L ∧ L ≤ 260 ∧ begunB B = true ∧ ((B.length < L ∧ first B = none) ∨ (L ≤ B.length ∧ ∃ x, first B = some (x, B.drop L) ∧ parseN (B.take L) = some x))) := by
  cases hb : begunB B with
  | false => exact .inl ⟨by unfold longI; rw [if_neg (by rw [hb]; decide)], rfl, not_begun_first hb⟩
  | true =>
    by_cases h6 : B.length < 6
    · refine .inr (.inl ⟨by unfold longI; rw [if_pos hb, if_pos h6], rfl, ?_⟩)
      unfold first; rw [if_neg]; rintro ⟨h, _⟩; omega
    · obtain ⟨h2, h3, h4, h5, h5'⟩ := (begun_iff B).1 hb
      have hL : lenN B = hd B 5 := by unfold lenN; rw [h4]; omega
      refine .inr (.inr ⟨6 + hd B 5, by unfold longI; rw [if_pos hb, if_neg h6]; omega, by omega, by omega, rfl, ?_⟩)
      by_cases hl : B.length < 6 + hd B 5
      · refine .inl ⟨hl, ?_⟩
        unfold first; rw [if_neg]; rintro ⟨_, _, h⟩; omega
      · refine .inr ⟨by omega, ?_⟩
        have hf : first B = some (⟨txN B, B.getD 6 0, (B.take (6 + lenN B)).drop 7⟩, B.drop (6 + lenN B)) := by unfold first; rw [if_pos ⟨by omega, hb, by omega⟩]
        rw [hL] at hf
        refine ⟨_, hf, ?_⟩
        obtain ⟨hR, hB⟩ := first_some hf
        have e := parse_pack hR
        have h7 := List.take_append_drop (6 + hd B 5) B
        have h8 : B.take (6 + hd B 5) = packN ⟨txN B, B.getD 6 0, (B.take (6 + hd B 5)).drop 7⟩ := by
          have h9 := h7.trans hB
          exact List.append_cancel_right h9
        rw [← h8] at e
        exact e
theorem cuts_none {B : List UInt8} {K : List Fr} {s : List UInt8} (h : Cuts B K s) (hf : first B = none) : K = [] ∧ s = B := by
  cases h with
  | done _ => exact ⟨rfl, rfl⟩
  | more h1 _ => rw [hf] at h1; cases h1
theorem cuts_some {B r : List UInt8} {K : List Fr} {s : List UInt8} {x : Fr} (h : Cuts B K s) (hf : first B = some (x, r)) : ∃ K', K = x :: K' ∧ Cuts r K' s := by
  cases h with
  | done h1 => rw [hf] at h1; cases h1
  | more h1 h2 =>
    rw [hf] at h1
    injection h1 with h1
    injection h1 with h1 h3
    subst h1 h3
    exact ⟨_, rfl, h2⟩
theorem new_cells2 (w : World) (O1 : Obj) (cs : Array Value) (e : TypeId) : ∀ j u, cs.toList[j]? = some u → ((w.alloc O1).alloc (.cells cs e)).cell? ((⟨w.heap.size + 1, 0, none⟩ : Addr).add j) = some u := fun j u h => by
  have h1 := new_cells (w.alloc O1) cs e j u h
  rwa [World.size_alloc] at h1
theorem flat_ge (l : List Fr) : l.length ≤ (flat l).length := by
  induction l with
  | nil => exact Nat.le_refl _
  | cons x l ih =>
    have h := packN_length x
    rw [flat_cons, List.length_append, List.length_cons]
    omega
theorem cuts_len {b : List UInt8} {l : List Fr} {s : List UInt8} (h : Cuts b l s) : l.length ≤ b.length := by
  have h1 := flat_ge l
  have h2 := congrArg List.length (cuts_iff.1 h).1
  rw [List.length_append] at h2
  omega
theorem cutis_end {w wr : World} {v : Value} {G : List Fm} {K l : List Fr} {p : Nat} {k e e' : Int} (ho : wr.ownsRow w.heap.size 25 3 v G.length (rowM G)) (hP : Pdus wr G) (hB : Below w.heap.size w wr) (hl : l = G.map Fm.x ++ K) (hK : K = []) (hk : (p : Int) = k) (he : e' = e) : CutIs l k e w (.returned (.tuple #[v, .int .i64 (p : Int), .int .i64 e'])) wr := by
  subst hK he
  rw [List.append_nil] at hl
  subst hl hk
  obtain ⟨a, c, rfl, hF⟩ := FrsAt.of_ownM ho rfl (fun e he => (hP e he).2)
  refine ⟨a, c, G, by rw [List.length_map], rfl, by rw [List.length_map]; exact hF, hB⟩
/-- Between two frames. -/
def CutR (b : List UInt8) (l : List Fr) (s : List UInt8) (w : World) (v i : Value) (wr : World) : Prop :=
  ∃ (p : Nat) (G : List Fm) (K : List Fr), i = .int .i64 (p : Int) ∧ p ≤ b.length ∧ wr.ownsRow w.heap.size 25 3 v G.length (rowM G) ∧ Pdus wr G ∧ Apart G v ∧ Below w.heap.size w wr ∧ l = G.map Fm.x ++ K ∧ Cuts (b.drop p) K s
theorem cutr_step {b : List UInt8} {l : List Fr} {s : List UInt8} {w wr w1 w5 : World} {v v5 : Value} {p L m : Nat} {G : List Fm} {K : List Fr} {x : Fr} {ap : Option Addr} {cp : Nat} {O1 O2 : Obj} (hp : p + L ≤ b.length) (ho : wr.ownsRow w.heap.size 25 3 v G.length (rowM G)) (hP : Pdus wr G) (hA : Apart G v) (hB : Below w.heap.size w wr) (hlK : l = G.map Fm.x ++ x :: K) (hc : Cuts (b.drop (p + L)) K s)
    (hR : Right x) (hsp : Sl b8 w1 w1.heap.size ap x.pdu.length cp x.pdu) (hxp : ∀ y : Addr, ap = some y → wr.heap.size ≤ y.block) (hb1 : Below wr.heap.size wr w1) (hown : w5.ownsRow w.heap.size 25 3 v5 m (rowM G ++ fmC ⟨x, ap, cp⟩)) (hg : Grew ((w1.alloc O1).alloc O2) v w5 v5) :
    CutR b l s w v5 (.int .i64 ((p : Int) + (L : Int))) w5 := by
  have hbz := hB.size
  have h1z := hb1.size
  have PG : Pdus w1 (G ++ [⟨x, ap, cp⟩]) := (hP.below hb1).append (fun f hf => by
    rw [List.mem_singleton] at hf
    subst hf
    exact ⟨hR.1, hsp⟩)
  have PG2 : Pdus ((w1.alloc O1).alloc O2) (G ++ [⟨x, ap, cp⟩]) := PG.below (((Below.refl _ _).alloc (Nat.le_refl _) O1).alloc (by simp) O2)
  have AG : Apart (G ++ [⟨x, ap, cp⟩]) v := hA.append (fun f hf y hy e2 => by
    rw [List.mem_singleton] at hf
    subst hf
    have h2 := hxp y hy
    have h3 := (ho.lt _ e2).2
    omega)
  have B1 : Below w.heap.size w ((w1.alloc O1).alloc O2) := ((hB.trans (hb1.mono hB.size)).alloc (by omega) O1).alloc (by simp; omega) O2
  have hm : m = (G ++ [(⟨x, ap, cp⟩ : Fm)]).length := by
    have h := hown.1
    rw [List.length_append, rowM_length] at h
    simp at h ⊢
    omega
  have hrow : rowM G ++ fmC ⟨x, ap, cp⟩ = rowM (G ++ [(⟨x, ap, cp⟩ : Fm)]) := by rw [rowM_append]; simp [rowM]
  rw [hrow, hm] at hown
  exact ⟨p + L, G ++ [⟨x, ap, cp⟩], K, by push_cast; rfl, hp, hown, PG2.grew hg AG, Apart.grew PG2 hg AG, Grew.below B1 hg (by simp; omega) (fun k hk => (ho.lt k hk).1), by rw [hlK]; simp, hc⟩
set_option maxRecDepth 100000 in
set_option maxHeartbeats 4000000 in
theorem rCut_at {a : Option Addr} {n c : Nat} {b : List UInt8} {w : World} (hl : Sl b8 w w.heap.size a n c b) (hm : n ≤ 1000000) {l : List Fr} {s : List UInt8} (hc : Cuts b l s) {k e : Int} (hk : (b.length : Int) - (s.length : Int) = k) (he : (if begunB s = true then (0 : Int) else 10) = e) :
    Calls Try.prog 15 #[.slice a n c] w (CutIs l k e w) := by
  have hn := len_le hl
  have hlen := hl.len
  have hnc := hl.nle
  have hcc : c ≤ 9223372036854775807 := by have := hl.cle; unfold maxLen at this; exact this
  obtain ⟨iF, hF, hF0, hF1, hF2⟩ := info_parts infoF
  have hF2' : iF.bytes = 32 := hF2
  have HL := Lib.hid hl
  have HLN := Lib.hid hlen
  have hln : l.length ≤ n := by have h := cuts_len hc; omega
  have HK := Lib.hid hk
  have HE := Lib.hid he
  have HS : Hid (CutR b l s w (.slice none 0 0) (.int .i64 0) w) := Lib.hid ⟨0, [], l, rfl, Nat.zero_le _, World.ownsRow_nil _ _ _ _, (fun e h => by cases h), (fun e h => by cases h), Below.refl _ _, rfl, hc⟩
  clear hl hlen hk he hc
  go_enter Try.func15, Try.ntmps15
  go_wp2_with fail
  go_loopw [5, 6] (fun v i wr => CutR b l s w v i wr) (fun _ i _ => n - (intOf i).toNat)
  case atStart => exact HS.out
  case round =>
    have hrel := hrel
    unfold CutR at hrel
    obtain ⟨p, G, K, rfl, hp, hoG, hpG, hpA, hb, hlK, hcK⟩ := hrel
    rw [HLN.out] at hp
    have HO := Lib.hid hoG
    have HP := Lib.hid hpG
    have HA := Lib.hid hpA
    have HB := Lib.hid hb
    have HLK := Lib.hid hlK
    have HCK := Lib.hid hcK
    have hbz := hb.size
    have i1 : (0 : Int) ≤ (p : Int) := by omega
    have i2 : (p : Int) ≤ (n : Int) := by omega
    have i3 : (n : Int) ≤ (c : Int) := by omega
    have HLr := Lib.hid (HL.out.below HB.out (Nat.le_refl _))
    clear hoG hpG hpA hb hlK hcK HS hrel
    by_cases hcp : c = p
    · have hnp : n = p := by omega
      have hB0 : b.drop p = [] := List.drop_eq_nil_of_le (by rw [HLN.out]; omega)
      obtain ⟨hK0, hs0⟩ := cuts_none HCK.out (by rw [hB0]; simp [first])
      have HLG := Lib.hid (long_any a 0 0 [] w.heap.size wr (by have h := HLr.out.from_ (k := p) (by omega); rw [if_pos hcp, hcp, Nat.sub_self, hB0, hnp, Nat.sub_self] at h; exact h))
      have hI : longI [] = 0 := rfl
      rw [hI] at HLG
      have HX := Lib.hid (And.intro hK0 hs0)
      rw [hB0] at HX
      clear hI hK0 hs0 hB0
      subst hnp
      subst hcp
      go_wp2_with fail
      refine HLG.out.mono ?_
      rintro e' w1 ⟨rfl, rfl⟩
      go_wp2_with fail
      go_ret3
      exact cutis_end HO.out HP.out HB.out HLK.out HX.out.1 (by have := HK.out; rw [HX.out.2] at this; rw [HLN.out] at this; simp at this; omega) (by have := HE.out; rw [HX.out.2] at this; exact this)
    · by_cases hn0 : n = 0
      · have hp0 : p = 0 := by omega
        have hb0 : b = [] := List.eq_nil_of_length_eq_zero (by rw [HLN.out]; exact hn0)
        have hB0 : b.drop p = [] := by rw [hb0]; simp
        obtain ⟨hK0, hs0⟩ := cuts_none HCK.out (by rw [hB0]; simp [first])
        subst hn0
        subst hp0
        have HLG := Lib.hid (long_any a 0 c [] w.heap.size wr (by have h := HLr.out; rw [hb0] at h; exact h))
        have hI : longI [] = 0 := rfl
        rw [hI] at HLG
        have HX := Lib.hid (And.intro hK0 hs0)
        rw [hB0] at HX
        clear hI hK0 hs0 hB0 hb0
        go_wp2_with fail
        refine HLG.out.mono ?_
        rintro e' w1 ⟨rfl, rfl⟩
        go_wp2_with fail
        go_ret3
        exact cutis_end HO.out HP.out HB.out HLK.out HX.out.1 (by have := HK.out; rw [HX.out.2] at this; rw [HLN.out] at this; simp at this; omega) (by have := HE.out; rw [HX.out.2] at this; exact this)
      · have hpc : p < c := by omega
        obtain ⟨bb, off, rfl, hbb, hcl⟩ := HL.out.cells (by omega)
        have HSX : Hid (Sl b8 wr w.heap.size (some ⟨bb, off + p, none⟩) (n - p) (c - p) (b.drop p)) := Lib.hid (by
          have h1 := HLr.out.from_ (k := p) (by omega)
          rw [if_neg hcp] at h1
          rwa [show (Option.map (fun x : Addr => x.add p) (some ⟨bb, off, none⟩)) = some ⟨bb, off + p, none⟩ from by by_cases h0 : p = 0 <;> simp [Addr.add, h0]] at h1)
        have HLG := Lib.hid (long_any (some ⟨bb, off + p, none⟩) (n - p) (c - p) (b.drop p) w.heap.size wr HSX.out)
        have hsl : ((b.drop p).length : Int) = (n : Int) - (p : Int) := by rw [List.length_drop, HLN.out]; omega
        have hsn : (b.drop p).length = n - p := by rw [List.length_drop, HLN.out]
        clear hcl
        rcases suffix_cases (b.drop p) with ⟨hI, hbg, hf⟩ | ⟨hI, hbg, hf⟩ | ⟨L, hI, hL8, hL260, hbg, ⟨hsh, hf⟩ | ⟨hle, x, hf, hpx⟩⟩
        · have HX := Lib.hid (cuts_none HCK.out hf)
          have HKK := Lib.hid (show (p : Int) = k by have := HK.out; rw [HX.out.2, hsl, HLN.out] at this; omega)
          have HEE := Lib.hid (show (10 : Int) = e by have := HE.out; rw [HX.out.2, hbg] at this; exact this)
          rw [hI] at HLG
          clear hI hbg hf hsl hsn
          go_wp2_with fail
          refine HLG.out.mono ?_
          rintro e' w1 ⟨rfl, rfl⟩
          go_wp2_with fail
          go_ret3
          exact cutis_end HO.out HP.out HB.out HLK.out HX.out.1 HKK.out HEE.out
        · have HX := Lib.hid (cuts_none HCK.out hf)
          have HKK := Lib.hid (show (p : Int) = k by have := HK.out; rw [HX.out.2, hsl, HLN.out] at this; omega)
          have HEE := Lib.hid (show (0 : Int) = e by have := HE.out; rw [HX.out.2, hbg] at this; exact this)
          rw [hI] at HLG
          clear hI hbg hf hsl hsn
          go_wp2_with fail
          refine HLG.out.mono ?_
          rintro e' w1 ⟨rfl, rfl⟩
          go_wp2_with fail
          go_ret3
          exact cutis_end HO.out HP.out HB.out HLK.out HX.out.1 HKK.out HEE.out
        · have HX := Lib.hid (cuts_none HCK.out hf)
          have HKK := Lib.hid (show (p : Int) = k by have := HK.out; rw [HX.out.2, hsl, HLN.out] at this; omega)
          have HEE := Lib.hid (show (0 : Int) = e by have := HE.out; rw [HX.out.2, hbg] at this; exact this)
          rw [hI] at HLG
          have t1 : decide ((L : Int) < 0) = false := by simp
          have t2 : ((L : Int) == 0) = false := by simp; omega
          have t3 : decide ((n : Int) < (p : Int) + (L : Int)) = true := by simp; omega
          clear hI hbg hf hsl hsn hsh
          go_wp2_with fail
          refine HLG.out.mono ?_
          rintro e' w1 ⟨rfl, rfl⟩
          go_wp2_with fail
          go_ret3
          exact cutis_end HO.out HP.out HB.out HLK.out HX.out.1 HKK.out HEE.out
        · obtain ⟨K', rfl, hcK'⟩ := cuts_some HCK.out hf
          rw [List.drop_drop] at hcK'
          have HC' := Lib.hid hcK'
          have hR := (parse_some hpx).1
          have HRR := Lib.hid hR
          rw [hI] at HLG
          have t1 : decide ((L : Int) < 0) = false := by simp
          have t2 : ((L : Int) == 0) = false := by simp; omega
          have t3 : decide ((n : Int) < (p : Int) + (L : Int)) = false := by simp; omega
          have q2 : (p : Int) ≤ (p : Int) + (L : Int) := by omega
          have q3 : (p : Int) + (L : Int) ≤ (c : Int) := by omega
          have q4 : ((p : Int) + (L : Int)).toNat = p + L := by omega
          have q5 : ¬ c = p := hcp
          have hpl : p + L ≤ n := by omega
          have HPR := Lib.hid (rParse_yes (some ⟨bb, off + p, none⟩) L (c - p) ((b.drop p).take L) wr ((HSX.out.take_ (k := L) (by omega)).more hbz) hpx)
          have hGL : G.length ≤ n := by have h := congrArg List.length HLK.out; rw [List.length_append, List.length_map] at h; omega
          clear hI hbg hf hsl hsn hle hcK' hpx hR HCK
          go_wp2_with fail
          refine HLG.out.mono ?_
          rintro e' w1 ⟨rfl, rfl⟩
          go_wp2_with fail
          refine HPR.out.mono ?_
          rintro e' w2 ⟨ap, cp, rfl, hsp, hb2, hxp⟩
          have HSP := Lib.hid (And.intro hsp (And.intro hb2 hxp))
          have hz2 := hb2.size
          have HO2 := Lib.hid (own_below HO.out hb2)
          obtain ⟨tx, un, pd⟩ := x
          clear hsp hb2 hxp HPR
          go_wp2_with (at_builtin; go_loud (refine wpList_append_valsN rfl (.tmp 40) (.tmp 42) 35 rfl w.heap.size 25 iF (.agg zeroF) 3 32 Try.underlying35 hF hF0 hF1 hF2' rfl (by decide) u5 G.length (rowM G) rfl ((HO2.out.alloc (.cells #[.int .u16 (tx.toNat : Int), b8 un, .slice ap pd.length cp] 25)).alloc (.cells #[.int .u16 (tx.toNat : Int), b8 un, .slice ap pd.length cp] 25)) ⟨w2.heap.size + 1, 0, none⟩ 1 1 (fmC ⟨⟨tx, un, pd⟩, ap, cp⟩) rfl rfl (new_cells2 w2 _ #[.int .u16 (tx.toNat : Int), b8 un, .slice ap pd.length cp] _) (fun y hy => by simp at hy; rcases hy with rfl | rfl | rfl <;> rfl) (by unfold maxLen; omega) (by omega) (by simp; omega) ?_; intro v5 w5 hown5 hg5; have HN5 := Lib.hid (cutr_step (by rw [HLN.out]; exact hpl) HO.out HP.out HA.out HB.out HLK.out HC'.out HRR.out HSP.out.1 HSP.out.2.2 HSP.out.2.1 hown5 hg5); clear hown5 hg5))
          go_roundw
          case rel => exact HN5.out
          case measure => simp [intOf]; omega
end Go.Proofs.Yteekdginloljjaa.MbW
