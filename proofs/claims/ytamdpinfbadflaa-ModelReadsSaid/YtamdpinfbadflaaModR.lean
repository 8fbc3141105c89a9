/- ModR: what was ModQ, ModR. -/
import Derived.Test.YtamdpinfbadflaaModP
import Derived.Test.YtamdpinfbadflaaAskAwake
import Derived.BigRegion
import Derived.RegionTactic
/- Registers compared; memories compared; spaces and memories that are not too much. -/
open Go.RowKit
namespace Go.Proofs.Ytamdpinfbadflaa.ModW
open AskM ReplyM ModM Mem AskW ReplyW

theorem LowWords_any (a b : Option Addr) (n c k d : Nat) (l m : List UInt16) (B B2 : Nat) (w : World) (hl : Sl b16 w B a n c l) (hm : Sl b16 w B2 b k d m) :
    Calls Try.prog 17 #[.slice a n c, .slice b k d] w (SaysD (.bool (decide (l = m))) w) := by
  have hn := len_le hl
  have hk := len_le hm
  by_cases hnk : n = k
  · subst hnk
    have h1 : ((n : Int) != (n : Int)) = false := by simp
    have HL := Lib.hid (And.intro hl hm)
    clear hl hm
    go_enter Try.func17, Try.ntmps17
    go_wp2_with fail
    go_loopw [13] (fun i wr => ∃ j : Nat, j ≤ n ∧ i = .int .i64 (j : Int) ∧ Hid (l.take j = m.take j) ∧ Hid (∃ q, wr = w.drewN q)) (fun i _ => n - (intOf i).toNat)
    case atStart => exact ⟨0, by omega, rfl, Lib.hid rfl, ⟨0, rfl⟩⟩
    case round =>
      obtain ⟨j, hj, rfl, HT, HW⟩ := hrel
      by_cases hlt : j < n
      · obtain ⟨q, rfl⟩ := HW.out
        obtain ⟨b1, o1, x, rfl, _, hx, hcx⟩ := HL.out.1.at_ hlt
        obtain ⟨b2, o2, y, rfl, _, hy, hcy⟩ := HL.out.2.at_ hlt
        have ht : decide ((j : Int) < (n : Int)) = true := by simp; omega
        have HX := Lib.hid (And.intro hx hy)
        clear hx hy
        by_cases hxy : x = y
        · subst hxy
          have hne : ((x.toNat : Int) != (x.toNat : Int)) = false := by simp
          clear HW
          go_wp2_with fail
          go_quiet (fail)
          go_wp2
          go_roundw
          case rel => exact ⟨j + 1, by omega, by go_num, Lib.hid (take_same HT.out HX.out.1 HX.out.2), Lib.hid ⟨_, rfl⟩⟩
          case measure => simp [intOf]; omega
        · have hne : ((x.toNat : Int) != (y.toNat : Int)) = true := by simp; exact fun e => hxy (UInt16.toNat_inj.1 (by omega))
          have HN := Lib.hid hxy
          clear HW hxy
          go_wp2_with fail
          go_quiet (fail)
          go_wp2
          go_ret
          have hne2 : l ≠ m := fun h => HN.out (Option.some.inj (HX.out.1.symm.trans ((congrArg (fun z => z[j]?) h).trans HX.out.2)))
          rw [decide_eq_false hne2]
          exact ⟨rfl, q + _, World.drewN_drewN ..⟩
      · obtain rfl : j = n := by omega
        have ht : decide ((j : Int) < (j : Int)) = false := by simp
        obtain ⟨q, rfl⟩ := HW.out
        clear HW
        go_wp2
        go_ret
        exact saysD (Eq.symm (decide_eq_true (by
          have h := HT.out
          rwa [List.take_of_length_le (by rw [HL.out.1.len]; exact Nat.le_refl _), List.take_of_length_le (by rw [HL.out.2.len]; exact Nat.le_refl _)] at h))) _
  · have h1 : ((n : Int) != (k : Int)) = true := by simp; omega
    have hd : l ≠ m := fun h => hnk (by rw [← hl.len, ← hm.len, h])
    have HD := Lib.hid hd
    clear hd hl hm
    go_enter Try.func17, Try.ntmps17
    go_wp2_with fail
    go_ret
    exact saysD (by simp [HD.out]) 0

theorem SaysD.says {v : Value} {w w' : World} {e : Ending} (h : SaysD v w e w') : Says v w e w' := ⟨h.1, h.below⟩
def sameN (m n : Me) : Bool := decide (m.coils = n.coils) && decide (m.inputs = n.inputs) && decide (m.holding = n.holding) && decide (m.words = n.words)
theorem sameN_iff {m n : Me} : sameN m n = true ↔ m = n := by
  unfold sameN
  simp only [Bool.and_eq_true, decide_eq_true_eq]
  obtain ⟨a, b, c, d⟩ := m
  obtain ⟨a', b', c', d'⟩ := n
  simp [and_assoc]
theorem sameN_eq (m n : Me) : sameN m n = decide (m = n) := by rw [Bool.eq_iff_iff, sameN_iff]; simp
set_option maxRecDepth 100000 in
set_option maxHeartbeats 2000000 in
theorem same_any (m n : Me) (p q : Pl) (w : World) (hM : MeAt w w.heap.size m p) (hN : MeAt w w.heap.size n q) :
    Calls Try.prog 13 #[meV m p, meV n q] w (Says (.bool (decide (m = n))) w) := by
  rw [← sameN_eq]
  have H1 := Lib.hid (fun W (h : Below w.heap.size w W) => (LowBits_any _ _ _ _ _ _ _ _ _ _ W (hM.on h).coils (hN.on h).coils).mono fun _ _ h => SaysD.says h)
  have H2 := Lib.hid (fun W (h : Below w.heap.size w W) => (LowBits_any _ _ _ _ _ _ _ _ _ _ W (hM.on h).inputs (hN.on h).inputs).mono fun _ _ h => SaysD.says h)
  have H3 := Lib.hid (fun W (h : Below w.heap.size w W) => (LowWords_any _ _ _ _ _ _ _ _ _ _ W (hM.on h).holding (hN.on h).holding).mono fun _ _ h => SaysD.says h)
  have H4 := Lib.hid (fun W (h : Below w.heap.size w W) => (LowWords_any _ _ _ _ _ _ _ _ _ _ W (hM.on h).words (hN.on h).words).mono fun _ _ h => SaysD.says h)
  have HV : Hid (sameN m n = (decide (m.coils = n.coils) && decide (m.inputs = n.inputs) && decide (m.holding = n.holding) && decide (m.words = n.words))) := Lib.hid rfl
  obtain ⟨m1, m2, m3, m4⟩ := m
  obtain ⟨n1, n2, n3, n4⟩ := n
  obtain ⟨da, dc, ja, jc, ka, kc, xa, xc⟩ := p
  obtain ⟨ea, ec, la, lc, na, nc, ya, yc⟩ := q
  simp only at H1 H2 H3 H4 HV
  generalize decide (m1 = n1) = r1 at *
  generalize decide (m2 = n2) = r2 at *
  generalize decide (m3 = n3) = r3 at *
  generalize decide (m4 = n4) = r4 at *
  have hb0 := below_two w (.cells #[.slice da m1.length dc, .slice ja m2.length jc, .slice ka m3.length kc, .slice xa m4.length xc] 28) (.cells #[.slice ea n1.length ec, .slice la n2.length lc, .slice na n3.length nc, .slice ya n4.length yc] 28)
  have hr0 : ((w.alloc (.cells #[.slice da m1.length dc, .slice ja m2.length jc, .slice ka m3.length kc, .slice xa m4.length xc] 28)).alloc (.cells #[.slice ea n1.length ec, .slice la n2.length lc, .slice na n3.length nc, .slice ya n4.length yc] 28)).heap[w.heap.size]? = some (.cells #[.slice da m1.length dc, .slice ja m2.length jc, .slice ka m3.length kc, .slice xa m4.length xc] 28 (0, 0)) := (Below.heap_alloc _ _ _ (by simp)).trans (heap_alloc_new w _)
  have hr1 := at_one w (.cells #[.slice da m1.length dc, .slice ja m2.length jc, .slice ka m3.length kc, .slice xa m4.length xc] 28) (.cells #[.slice ea n1.length ec, .slice la n2.length lc, .slice na n3.length nc, .slice ya n4.length yc] 28)
  clear hM hN
  go_enter Try.func13, Try.ntmps13
  go_wp2_with fail
  generalize (w.alloc (.cells #[.slice da m1.length dc, .slice ja m2.length jc, .slice ka m3.length kc, .slice xa m4.length xc] 28)).alloc (.cells #[.slice ea n1.length ec, .slice la n2.length lc, .slice na n3.length nc, .slice ya n4.length yc] 28) = W0 at *
  have K0 := Lib.hid (And.intro hb0 (And.intro hr0 hr1))
  clear hb0 hr0 hr1

  refine (H1.out W0 K0.out.1).mono ?_
  rintro e w1 ⟨rfl, hb⟩
  have K1 := Lib.hid (And.intro (K0.out.1.trans (hb.mono K0.out.1.size)) (And.intro (row_cell K0.out.2.1 hb) (row_cell K0.out.2.2 hb)))
  clear hb K0 H1
  cases r1
  case false =>
    go_wp2_with fail
    go_ret
    exact says_bool (by rw [HV.out]; rfl) K1.out.1
  have q0 : w1.cell? ⟨w.heap.size, 1, none⟩ = some (.slice ja m2.length jc) := cell_of_row _ _ _ _ _ _ K1.out.2.1
  have q1 : w1.cell? ⟨w.heap.size + 1, 1, none⟩ = some (.slice la n2.length lc) := cell_of_row _ _ _ _ _ _ K1.out.2.2
  go_wp2_with fail
  clear q0 q1
  refine (H2.out w1 K1.out.1).mono ?_
  rintro e w2 ⟨rfl, hb⟩
  have K2 := Lib.hid (And.intro (K1.out.1.trans (hb.mono K1.out.1.size)) (And.intro (row_cell K1.out.2.1 hb) (row_cell K1.out.2.2 hb)))
  clear hb K1 H2
  cases r2
  case false =>
    go_wp2_with fail
    go_ret
    exact says_bool (by rw [HV.out]; rfl) K2.out.1
  have q0 : w2.cell? ⟨w.heap.size, 2, none⟩ = some (.slice ka m3.length kc) := cell_of_row _ _ _ _ _ _ K2.out.2.1
  have q1 : w2.cell? ⟨w.heap.size + 1, 2, none⟩ = some (.slice na n3.length nc) := cell_of_row _ _ _ _ _ _ K2.out.2.2
  go_wp2_with fail
  clear q0 q1
  refine (H3.out w2 K2.out.1).mono ?_
  rintro e w3 ⟨rfl, hb⟩
  have K3 := Lib.hid (And.intro (K2.out.1.trans (hb.mono K2.out.1.size)) (And.intro (row_cell K2.out.2.1 hb) (row_cell K2.out.2.2 hb)))
  clear hb K2 H3
  cases r3
  case false =>
    go_wp2_with fail
    go_ret
    exact says_bool (by rw [HV.out]; rfl) K3.out.1
  have q0 : w3.cell? ⟨w.heap.size, 3, none⟩ = some (.slice xa m4.length xc) := cell_of_row _ _ _ _ _ _ K3.out.2.1
  have q1 : w3.cell? ⟨w.heap.size + 1, 3, none⟩ = some (.slice ya n4.length yc) := cell_of_row _ _ _ _ _ _ K3.out.2.2
  go_wp2_with fail
  clear q0 q1
  refine (H4.out w3 K3.out.1).mono ?_
  rintro e w4 ⟨rfl, hb⟩
  have K4 := Lib.hid (And.intro (K3.out.1.trans (hb.mono K3.out.1.size)) (And.intro (row_cell K3.out.2.1 hb) (row_cell K3.out.2.2 hb)))
  clear hb K3 H4
  go_wp2_with fail
  go_ret
  exact says_bool (by rw [HV.out]; cases r4 <;> rfl) K4.out.1
/-- Not too much, at least of memory. -/
structure MeLight (m : Me) : Prop where
  coils : m.coils.length ≤ 300
  inputs : m.inputs.length ≤ 300
  holding : m.holding.length ≤ 300
  words : m.words.length ≤ 300
theorem MeLight.small {m : Me} (h : MeLight m) : MeSmall m := ⟨by have := h.coils; omega, by have := h.inputs; omega, by have := h.holding; omega, by have := h.words; omega⟩
def Lights (m : Me) (w : World) (e : Ending) (w' : World) : Prop := ∃ r, e = .returned (.bool r) ∧ (r = true → MeLight m) ∧ Below w.heap.size w w'
set_option maxRecDepth 100000 in
set_option maxHeartbeats 2000000 in
theorem Light_any (s : Sp) (p : Pl) (m : Me) (q : Pl) (w : World) (hS : SpAt w w.heap.size s p) (hM : MeAt w w.heap.size m q) :
    Calls Try.prog 8 #[spV s p, meV m q] w (Lights m w) := by
  have g1 := hS.coils.big
  have g2 := hS.inputs.big
  have g3 := hS.holding.big
  have g4 := hS.words.big
  have g5 := len_le hM.coils
  have g6 := len_le hM.inputs
  have g7 := len_le hM.holding
  have g8 := len_le hM.words
  obtain ⟨s1, s2, s3, s4⟩ := s
  obtain ⟨ca, cc, ia, ic, ha, hc, wa, wc⟩ := p
  obtain ⟨m1, m2, m3, m4⟩ := m
  obtain ⟨da, dc, ja, jc, ka, kc, xa, xc⟩ := q
  simp only at g1 g2 g3 g4 g5 g6 g7 g8
  obtain ⟨x1, hx1⟩ : ∃ x, IntKind.i64.wrap ((s1.length : Int) + (s2.length : Int)) = x := ⟨_, rfl⟩
  obtain ⟨x2, hx2⟩ : ∃ x, IntKind.i64.wrap (x1 + (s3.length : Int)) = x := ⟨_, rfl⟩
  obtain ⟨x3, hx3⟩ : ∃ x, IntKind.i64.wrap (x2 + (s4.length : Int)) = x := ⟨_, rfl⟩
  have HB : Hid (Below w.heap.size w ((w.alloc (.cells #[.slice ca s1.length cc, .slice ia s2.length ic, .slice ha s3.length hc, .slice wa s4.length wc] 24)).alloc (.cells #[.slice da m1.length dc, .slice ja m2.length jc, .slice ka m3.length kc, .slice xa m4.length xc] 28))) := Lib.hid (below_two w _ _)
  clear hS hM
  by_cases h0 : x3 ≤ 40
  case neg =>
    have t0 : decide (x3 ≤ 40) = false := by simpa using h0
    clear h0
    go_enter Try.func8, Try.ntmps8
    go_wp2_with fail
    go_ret
    exact ⟨false, rfl, (fun h => by cases h), HB.out⟩
  have t0 : decide (x3 ≤ 40) = true := by simpa using h0
  clear h0
  by_cases h1 : m1.length ≤ 300
  case neg =>
    have t1 : decide ((m1.length : Int) ≤ 300) = false := by simp; omega
    clear h1
    go_enter Try.func8, Try.ntmps8
    go_wp2_with fail
    go_ret
    exact ⟨false, rfl, (fun h => by cases h), HB.out⟩
  have t1 : decide ((m1.length : Int) ≤ 300) = true := by simp; omega
  by_cases h2 : m2.length ≤ 300
  case neg =>
    have t2 : decide ((m2.length : Int) ≤ 300) = false := by simp; omega
    clear h2
    go_enter Try.func8, Try.ntmps8
    go_wp2_with fail
    go_ret
    exact ⟨false, rfl, (fun h => by cases h), HB.out⟩
  have t2 : decide ((m2.length : Int) ≤ 300) = true := by simp; omega
  by_cases h3 : m3.length ≤ 300
  case neg =>
    have t3 : decide ((m3.length : Int) ≤ 300) = false := by simp; omega
    clear h3
    go_enter Try.func8, Try.ntmps8
    go_wp2_with fail
    go_ret
    exact ⟨false, rfl, (fun h => by cases h), HB.out⟩
  have t3 : decide ((m3.length : Int) ≤ 300) = true := by simp; omega
  by_cases h4 : m4.length ≤ 300
  · have t4 : decide ((m4.length : Int) ≤ 300) = true := by simp; omega
    have HL : Hid (MeLight ⟨m1, m2, m3, m4⟩) := Lib.hid ⟨h1, h2, h3, h4⟩
    clear h1 h2 h3 h4
    go_enter Try.func8, Try.ntmps8
    go_wp2_with fail
    go_ret
    exact ⟨_, rfl, (fun _ => HL.out), HB.out⟩
  · have t4 : decide ((m4.length : Int) ≤ 300) = false := by simp; omega
    clear h4
    go_enter Try.func8, Try.ntmps8
    go_wp2_with fail
    go_ret
    exact ⟨_, rfl, (fun h => by first | cases h | (rw [t4] at h; cases h)), HB.out⟩
end Go.Proofs.Ytamdpinfbadflaa.ModW

/- The examples of the chapter on the model. -/
open Go.RowKit
namespace Go.Proofs.Ytamdpinfbadflaa.ModM
open AskM ReplyM ReplyW
def sX : Sp := ⟨[⟨0, 10, true, false, false⟩], [], [⟨0, 4, true, false, false⟩, ⟨4, 4, false, true, true⟩], []⟩
def mX : Me := ⟨List.replicate 10 false, [], List.replicate 8 0, []⟩
theorem mex1 : (doN sX mX ⟨16, 4, 4, 0, [1, 2, 3, 4], []⟩).1.holding.length = 8 ∧ (doN sX mX ⟨16, 4, 4, 0, [1, 2, 3, 4], []⟩).1.holding[7]? = some 4 ∧ (doN sX mX ⟨16, 4, 4, 0, [1, 2, 3, 4], []⟩).2 = ⟨16, 0, [], [], 4, 4⟩ := ⟨by decide +kernel, by decide +kernel, by decide +kernel⟩
theorem mex2 : (doN sX mX ⟨16, 4, 2, 0, [1, 2], []⟩).2.ex = 2 := by decide +kernel
theorem mex3 : (doN sX mX ⟨3, 2, 4, 0, [], []⟩).2.ex = 2 := by decide +kernel
theorem mex4 : (doN sX mX ⟨1, 0, 10, 0, [], []⟩).2.bits.length = 16 := by decide +kernel
theorem mex5 : mrightN sX mX = true := by decide +kernel
end Go.Proofs.Ytamdpinfbadflaa.ModM
namespace Go.Proofs.Ytamdpinfbadflaa.ModW
open AskM ReplyM ModM Mem AskW ReplyW

def pX (n : Nat) : Pl := ⟨some ⟨n, 0, none⟩, 1, none, 0, some ⟨n + 1, 0, none⟩, 2, none, 0⟩
theorem mX_small : MeSmall mX := ⟨by decide, by decide, by decide, by decide⟩
/-- Rows that lie there. -/
def Has (W : World) (l : List (Nat × Array Value × TypeId)) : Prop := ∀ x ∈ l, W.heap[x.1]? = some (.cells x.2.1 x.2.2 (0, 0))
theorem Has.on {W W' : World} {l : List (Nat × Array Value × TypeId)} (h : Has W l) (hb : Below W.heap.size W W') : Has W' l := fun x hx => row_cell (h x hx) hb
theorem Has.cons {W : World} {l : List (Nat × Array Value × TypeId)} (h : Has W l) {g : Nat} {c : Array Value} {t : TypeId} (hg : W.heap[g]? = some (.cells c t (0, 0))) : Has W ((g, c, t) :: l) := fun x hx => by
  rcases List.mem_cons.1 hx with rfl | hx
  · exact hg
  · exact h x hx
/-- The examples' world. -/
structure AW (w W : World) (t2 xb xw : Nat) : Prop where
  below : Below w.heap.size w W
  t1 : W.heap[w.heap.size + 1 + 1]? = some (.cells #[.slice (some ⟨w.heap.size, 0, none⟩) 1 1, .slice none 0 0, .slice (some ⟨w.heap.size + 1, 0, none⟩) 2 2, .slice none 0 0] 24 (0, 0))
  t2 : W.heap[t2]? = some (.cells #[.slice (some ⟨xb, 0, none⟩) 10 10, .slice none 0 0, .slice (some ⟨xw, 0, none⟩) 8 8, .slice none 0 0] 28 (0, 0))
  sp : SpAt W W.heap.size sX (pX w.heap.size)
  me : MeAt W W.heap.size mX ⟨some ⟨xb, 0, none⟩, 10, none, 0, some ⟨xw, 0, none⟩, 8, none, 0⟩
theorem AW.on {w W W' : World} {t2 xb xw : Nat} (h : AW w W t2 xb xw) (hb : Below W.heap.size W W') : AW w W' t2 xb xw :=
  ⟨h.below.trans (hb.mono h.below.size), row_cell h.t1 hb, row_cell h.t2 hb, h.sp.on hb, h.me.on hb⟩
theorem row_sl {α : Type} {f : α → Value} {W : World} {g : Nat} {c : Array Value} {t : TypeId} (h : W.heap[g]? = some (.cells c t (0, 0))) (l : List α) (n : Nat) (hc : c.toList = l.map f) (hn : l.length = n) (hm : n ≤ 1000000) : Sl f W W.heap.size (some ⟨g, 0, none⟩) n n l := by
  refine ⟨hn, Nat.le_refl _, by unfold maxLen; omega, (fun h => by cases h), fun _ => ⟨g, 0, rfl, (Array.getElem?_eq_some_iff.1 h).1, fun i x hx => ?_⟩⟩
  rw [Nat.zero_add, cell_of_row _ _ _ _ _ _ h, ← Array.getElem?_toList, hc, List.getElem?_map, hx]
  rfl
theorem row_ars {W : World} {g : Nat} {c : Array Value} {t : TypeId} (h : W.heap[g]? = some (.cells c t (0, 0))) (es : List Ar) (n : Nat) (hc : ∀ i e, es[i]? = some e → ∀ j v, (arCells e)[j]? = some v → c[i * 5 + j]? = some v) (hn : es.length = n) (hm : n ≤ 1000000) (hok : ∀ e ∈ es, ArOk e) : ArsAt W W.heap.size (some ⟨g, 0, none⟩) n n es := by
  refine ⟨hn, Nat.le_refl _, by unfold maxLen; omega, hok, fun _ => ⟨g, 0, rfl, (Array.getElem?_eq_some_iff.1 h).1, fun i e hx j v hv => ?_⟩⟩
  rw [Nat.zero_add, cell_of_row _ _ _ _ _ _ h]
  exact hc i e hx j v hv
theorem ok_ex (e : Ar) (h : e = ⟨0, 10, true, false, false⟩ ∨ e = ⟨0, 4, true, false, false⟩ ∨ e = ⟨4, 4, false, true, true⟩) : ArOk e := by
  rcases h with rfl | rfl | rfl <;> exact ⟨by decide, by decide, by decide, by decide⟩
/-- The space lies there. -/
theorem sp_ex {W : World} {n : Nat} (h1 : W.heap[n]? = some (.cells #[.int .i64 0, .int .i64 10, .bool true, .bool false, .bool false] 49 (0, 0))) (h2 : W.heap[n + 1]? = some (.cells #[.int .i64 0, .int .i64 4, .bool true, .bool false, .bool false, .int .i64 4, .int .i64 4, .bool false, .bool true, .bool true] 49 (0, 0))) : SpAt W W.heap.size sX (pX n) := by
  refine ⟨row_ars h1 _ 1 ?_ rfl (by omega) ?_, ArsAt.none_, row_ars h2 _ 2 ?_ rfl (by omega) ?_, ArsAt.none_⟩
  · intro i e hx j v hv
    match i, hx with
    | 0, hx =>
      injection hx with hx
      subst hx
      match j, hv with
      | 0, hv => exact hv
      | 1, hv => exact hv
      | 2, hv => exact hv
      | 3, hv => exact hv
      | 4, hv => exact hv
  · intro e he
    rcases List.mem_cons.1 he with rfl | he
    · exact ok_ex _ (.inl rfl)
    · cases he
  · intro i e hx j v hv
    match i, hx with
    | 0, hx =>
      injection hx with hx
      subst hx
      match j, hv with
      | 0, hv => exact hv
      | 1, hv => exact hv
      | 2, hv => exact hv
      | 3, hv => exact hv
      | 4, hv => exact hv
    | 1, hx =>
      injection hx with hx
      subst hx
      match j, hv with
      | 0, hv => exact hv
      | 1, hv => exact hv
      | 2, hv => exact hv
      | 3, hv => exact hv
      | 4, hv => exact hv
  · intro e he
    rcases List.mem_cons.1 he with rfl | he
    · exact ok_ex _ (.inr (.inl rfl))
    · rcases List.mem_cons.1 he with rfl | he
      · exact ok_ex _ (.inr (.inr rfl))
      · cases he
theorem aw_mk {w W1 : World} (hb : Below w.heap.size w W1) (h1 : W1.heap[w.heap.size]? = some (.cells #[.int .i64 0, .int .i64 10, .bool true, .bool false, .bool false] 49 (0, 0))) (h2 : W1.heap[w.heap.size + 1]? = some (.cells #[.int .i64 0, .int .i64 4, .bool true, .bool false, .bool false, .int .i64 4, .int .i64 4, .bool false, .bool true, .bool true] 49 (0, 0))) (h3 : W1.heap[w.heap.size + 1 + 1]? = some (.cells #[.slice (some ⟨w.heap.size, 0, none⟩) 1 1, .slice none 0 0, .slice (some ⟨w.heap.size + 1, 0, none⟩) 2 2, .slice none 0 0] 24 (0, 0)))
    {W : World} (hW : Below W1.heap.size W1 W) {xb xw t2 : Nat} (hxb : W.heap[xb]? = some (.cells #[.bool false, .bool false, .bool false, .bool false, .bool false, .bool false, .bool false, .bool false, .bool false, .bool false] 4 (0, 0))) (hxw : W.heap[xw]? = some (.cells #[.int .u16 0, .int .u16 0, .int .u16 0, .int .u16 0, .int .u16 0, .int .u16 0, .int .u16 0, .int .u16 0] 29 (0, 0)))
    (ht : W.heap[t2]? = some (.cells #[.slice (some ⟨xb, 0, none⟩) 10 10, .slice none 0 0, .slice (some ⟨xw, 0, none⟩) 8 8, .slice none 0 0] 28 (0, 0))) : AW w W t2 xb xw :=
  ⟨hb.trans (hW.mono hb.size), row_cell h3 hW, ht, sp_ex (row_cell h1 hW) (row_cell h2 hW), ⟨row_sl hxb _ 10 rfl rfl (by omega), Sl.none_, row_sl hxw _ 8 rfl rfl (by omega), Sl.none_⟩⟩
theorem three_rows (W : World) (o1 o2 o3 : Obj) : Below W.heap.size W (((W.alloc o1).alloc o2).alloc o3).drew ∧ (((W.alloc o1).alloc o2).alloc o3).drew.heap[W.heap.size]? = some o1 ∧ (((W.alloc o1).alloc o2).alloc o3).drew.heap[W.heap.size + 1]? = some o2 ∧ (((W.alloc o1).alloc o2).alloc o3).drew.heap[W.heap.size + 1 + 1]? = some o3 := by
  have e : ∀ (W : World) (o : Obj), (W.alloc o).heap.size = W.heap.size + 1 := fun W o => by simp
  refine ⟨?_, ?_, ?_, ?_⟩
  · exact ((((Below.refl _ _).alloc (Nat.le_refl _) _).alloc (by simp) _).alloc (by simp only [e]; omega) _).drew
  · show (((W.alloc o1).alloc o2).alloc o3).heap[W.heap.size]? = some o1
    rw [Below.heap_alloc _ _ _ (by simp only [e]; omega), Below.heap_alloc _ _ _ (by simp only [e]; omega)]
    exact heap_alloc_new W _
  · exact at_one_of W o1 o2 o3
  · exact at_two W o1 o2 o3

set_option maxRecDepth 100000 in
set_option maxHeartbeats 4000000 in
theorem awake_any (w : World) : Calls Try.prog 10 #[] w (Says (.bool true) w) := by
  have hmB : ∀ w : World, (Instr.makeSlice 25 (.int .i64 10) (.int .i64 10)).run Try.prog w = .ok (.slice (some ⟨w.heap.size, 0, none⟩) 10 10) (w.alloc (.cells #[.bool false, .bool false, .bool false, .bool false, .bool false, .bool false, .bool false, .bool false, .bool false, .bool false] 4)) := fun _ => by kernel_rfl
  have hmW : ∀ w : World, (Instr.makeSlice 26 (.int .i64 8) (.int .i64 8)).run Try.prog w = .ok (.slice (some ⟨w.heap.size, 0, none⟩) 8 8) (w.alloc (.cells #[.int .u16 0, .int .u16 0, .int .u16 0, .int .u16 0, .int .u16 0, .int .u16 0, .int .u16 0, .int .u16 0] 29)) := fun _ => by kernel_rfl
  have hbW : Below w.heap.size w (((w.alloc (.cells #[.int .i64 0, .int .i64 10, .bool true, .bool false, .bool false] 49)).alloc (.cells #[.int .i64 0, .int .i64 4, .bool true, .bool false, .bool false, .int .i64 4, .int .i64 4, .bool false, .bool true, .bool true] 49)).alloc (.cells #[.slice (some ⟨w.heap.size, 0, none⟩) 1 1, .slice none 0 0, .slice (some ⟨w.heap.size + 1, 0, none⟩) 2 2, .slice none 0 0] 24)) := (((Below.refl _ _).alloc (Nat.le_refl _) _).alloc (by simp) _).alloc (by simp; omega) _
  have hr1 : (((w.alloc (.cells #[.int .i64 0, .int .i64 10, .bool true, .bool false, .bool false] 49)).alloc (.cells #[.int .i64 0, .int .i64 4, .bool true, .bool false, .bool false, .int .i64 4, .int .i64 4, .bool false, .bool true, .bool true] 49)).alloc (.cells #[.slice (some ⟨w.heap.size, 0, none⟩) 1 1, .slice none 0 0, .slice (some ⟨w.heap.size + 1, 0, none⟩) 2 2, .slice none 0 0] 24)).heap[w.heap.size]? = some (.cells #[.int .i64 0, .int .i64 10, .bool true, .bool false, .bool false] 49 (0, 0)) := (three_rows w _ _ _).2.1
  have hr2 := at_one_of w (.cells #[.int .i64 0, .int .i64 10, .bool true, .bool false, .bool false] 49) (.cells #[.int .i64 0, .int .i64 4, .bool true, .bool false, .bool false, .int .i64 4, .int .i64 4, .bool false, .bool true, .bool true] 49) (.cells #[.slice (some ⟨w.heap.size, 0, none⟩) 1 1, .slice none 0 0, .slice (some ⟨w.heap.size + 1, 0, none⟩) 2 2, .slice none 0 0] 24)
  have hr3 := at_two w (.cells #[.int .i64 0, .int .i64 10, .bool true, .bool false, .bool false] 49) (.cells #[.int .i64 0, .int .i64 4, .bool true, .bool false, .bool false, .int .i64 4, .int .i64 4, .bool false, .bool true, .bool true] 49) (.cells #[.slice (some ⟨w.heap.size, 0, none⟩) 1 1, .slice none 0 0, .slice (some ⟨w.heap.size + 1, 0, none⟩) 2 2, .slice none 0 0] 24)
  go_enter Try.func10, Try.ntmps10
  go_wp2_with fail
  generalize ((w.alloc (.cells #[.int .i64 0, .int .i64 10, .bool true, .bool false, .bool false] 49)).alloc (.cells #[.int .i64 0, .int .i64 4, .bool true, .bool false, .bool false, .int .i64 4, .int .i64 4, .bool false, .bool true, .bool true] 49)).alloc (.cells #[.slice (some ⟨w.heap.size, 0, none⟩) 1 1, .slice none 0 0, .slice (some ⟨w.heap.size + 1, 0, none⟩) 2 2, .slice none 0 0] 24) = W1 at *
  have HMK := Lib.hid (fun W (hW : Below W1.heap.size W1 W) xb xw t2 hxb hxw ht => aw_mk (xb := xb) (xw := xw) (t2 := t2) hbW hr1 hr2 hr3 hW hxb hxw ht)
  clear hbW hr1 hr2 hr3
  go_region
  · have HQ := Lib.hid (HMK.out (((W1.alloc (.cells #[.bool false, .bool false, .bool false, .bool false, .bool false, .bool false, .bool false, .bool false, .bool false, .bool false] 4)).alloc (.cells #[.int .u16 0, .int .u16 0, .int .u16 0, .int .u16 0, .int .u16 0, .int .u16 0, .int .u16 0, .int .u16 0] 29)).alloc (.cells #[.slice (some ⟨W1.heap.size, 0, none⟩) 10 10, .slice none 0 0, .slice (some ⟨W1.heap.size + 1, 0, none⟩) 8 8, .slice none 0 0] 28)).drew (three_rows W1 _ _ _).1 (W1.heap.size) (W1.heap.size + 1) (W1.heap.size + 1 + 1) ((three_rows W1 (.cells #[.bool false, .bool false, .bool false, .bool false, .bool false, .bool false, .bool false, .bool false, .bool false, .bool false] 4) (.cells #[.int .u16 0, .int .u16 0, .int .u16 0, .int .u16 0, .int .u16 0, .int .u16 0, .int .u16 0, .int .u16 0] 29) (.cells #[.slice (some ⟨W1.heap.size, 0, none⟩) 10 10, .slice none 0 0, .slice (some ⟨W1.heap.size + 1, 0, none⟩) 8 8, .slice none 0 0] 28)).2.1) ((three_rows W1 (.cells #[.bool false, .bool false, .bool false, .bool false, .bool false, .bool false, .bool false, .bool false, .bool false, .bool false] 4) (.cells #[.int .u16 0, .int .u16 0, .int .u16 0, .int .u16 0, .int .u16 0, .int .u16 0, .int .u16 0, .int .u16 0] 29) (.cells #[.slice (some ⟨W1.heap.size, 0, none⟩) 10 10, .slice none 0 0, .slice (some ⟨W1.heap.size + 1, 0, none⟩) 8 8, .slice none 0 0] 28)).2.2.1) ((three_rows W1 (.cells #[.bool false, .bool false, .bool false, .bool false, .bool false, .bool false, .bool false, .bool false, .bool false, .bool false] 4) (.cells #[.int .u16 0, .int .u16 0, .int .u16 0, .int .u16 0, .int .u16 0, .int .u16 0, .int .u16 0, .int .u16 0] 29) (.cells #[.slice (some ⟨W1.heap.size, 0, none⟩) 10 10, .slice none 0 0, .slice (some ⟨W1.heap.size + 1, 0, none⟩) 8 8, .slice none 0 0] 28)).2.2.2))
    clear hmB hmW
    generalize (((W1.alloc (.cells #[.bool false, .bool false, .bool false, .bool false, .bool false, .bool false, .bool false, .bool false, .bool false, .bool false] 4)).alloc (.cells #[.int .u16 0, .int .u16 0, .int .u16 0, .int .u16 0, .int .u16 0, .int .u16 0, .int .u16 0, .int .u16 0] 29)).alloc (.cells #[.slice (some ⟨W1.heap.size, 0, none⟩) 10 10, .slice none 0 0, .slice (some ⟨W1.heap.size + 1, 0, none⟩) 8 8, .slice none 0 0] 28)).drew = WE at *
    have KA := HQ
    have KH : Hid (Has WE []) := Lib.hid fun x hx => by cases hx
    clear HQ HMK
    obtain ⟨n1, r1, hd1, hf1⟩ : ∃ n r, doN sX mX ⟨16, 4, 4, 0, [1, 2, 3, 4], []⟩ = (n, r) ∧ (n.holding.length = 8 ∧ n.holding[7]? = some 4 ∧ r = ⟨16, 0, [], [], 4, 4⟩) := ⟨_, _, rfl, mex1⟩
    have HF1 := Lib.hid hf1
    have s0 : WE.cell? ⟨w.heap.size + 1 + 1, 0, none⟩ = some (.slice (some ⟨w.heap.size, 0, none⟩) 1 1) := cell_of_row _ _ _ _ _ _ KA.out.t1
    have s1 : WE.cell? ⟨w.heap.size + 1 + 1, 1, none⟩ = some (.slice none 0 0) := cell_of_row _ _ _ _ _ _ KA.out.t1
    have s2 : WE.cell? ⟨w.heap.size + 1 + 1, 2, none⟩ = some (.slice (some ⟨w.heap.size + 1, 0, none⟩) 2 2) := cell_of_row _ _ _ _ _ _ KA.out.t1
    have s3 : WE.cell? ⟨w.heap.size + 1 + 1, 3, none⟩ = some (.slice none 0 0) := cell_of_row _ _ _ _ _ _ KA.out.t1
    have g0 : WE.cell? ⟨W1.heap.size + 1 + 1, 0, none⟩ = some (.slice (some ⟨W1.heap.size, 0, none⟩) 10 10) := cell_of_row _ _ _ _ _ _ KA.out.t2
    have g1 : WE.cell? ⟨W1.heap.size + 1 + 1, 1, none⟩ = some (.slice none 0 0) := cell_of_row _ _ _ _ _ _ KA.out.t2
    have g2 : WE.cell? ⟨W1.heap.size + 1 + 1, 2, none⟩ = some (.slice (some ⟨W1.heap.size + 1, 0, none⟩) 8 8) := cell_of_row _ _ _ _ _ _ KA.out.t2
    have g3 : WE.cell? ⟨W1.heap.size + 1 + 1, 3, none⟩ = some (.slice none 0 0) := cell_of_row _ _ _ _ _ _ KA.out.t2
    have hV := below_al WE (.cells #[.int .u16 1, .int .u16 2, .int .u16 3, .int .u16 4] 29)
    have KV := Lib.hid (And.intro (KA.out.on hV) (KH.out.on hV))
    have hA : (WE.alloc (.cells #[.int .u16 1, .int .u16 2, .int .u16 3, .int .u16 4] 29)).heap[WE.heap.size]? = some (.cells #[.int .u16 1, .int .u16 2, .int .u16 3, .int .u16 4] 29 (0, 0)) := heap_alloc_new WE _
    have HDO := Lib.hid (Do_at sX (pX w.heap.size) mX ⟨some ⟨W1.heap.size, 0, none⟩, 10, none, 0, some ⟨W1.heap.size + 1, 0, none⟩, 8, none, 0⟩ ⟨16, 4, 4, 0, [1, 2, 3, 4], []⟩ (some ⟨WE.heap.size, 0, none⟩) 4 none 0 (WE.alloc (.cells #[.int .u16 1, .int .u16 2, .int .u16 3, .int .u16 4] 29)) KV.out.1.sp KV.out.1.me mX_small ⟨row_sl hA _ 4 rfl rfl (by omega), Sl.none_⟩ (by decide) (by decide))
    clear hA
    clear hV
    rw [hd1] at HDO
    clear hd1 hf1 KA KH
    go_wp2_with fail
    refine HDO.out.mono ?_
    rintro e v1 ⟨q1, a1, c1, b1, e1, rfl, hme1, hrp1, hb⟩
    have KV2 := Lib.hid (And.intro (KV.out.1.on hb) (KV.out.2.on hb))
    clear KV HDO hb s0 s1 s2 s3 g0 g1 g2 g3
    have hx1 : Below v1.heap.size v1 ((v1.alloc (.cells #[.slice q1.ca n1.coils.length q1.cc, .slice q1.ia n1.inputs.length q1.ic, .slice q1.ha n1.holding.length q1.hc, .slice q1.wa n1.words.length q1.wc] 28)).alloc (.cells #[b8 r1.fn, b8 r1.ex, .slice b1 r1.bits.length e1, .slice a1 r1.words.length c1, b16 r1.at_, b16 r1.many] 36)) := below_two v1 _ _
    have hx2 : ((v1.alloc (.cells #[.slice q1.ca n1.coils.length q1.cc, .slice q1.ia n1.inputs.length q1.ic, .slice q1.ha n1.holding.length q1.hc, .slice q1.wa n1.words.length q1.wc] 28)).alloc (.cells #[b8 r1.fn, b8 r1.ex, .slice b1 r1.bits.length e1, .slice a1 r1.words.length c1, b16 r1.at_, b16 r1.many] 36)).heap[v1.heap.size]? = some (.cells #[.slice q1.ca n1.coils.length q1.cc, .slice q1.ia n1.inputs.length q1.ic, .slice q1.ha n1.holding.length q1.hc, .slice q1.wa n1.words.length q1.wc] 28 (0, 0)) := (Below.heap_alloc _ _ _ (by simp)).trans (heap_alloc_new v1 _)
    have hx3 := at_one v1 (.cells #[.slice q1.ca n1.coils.length q1.cc, .slice q1.ia n1.inputs.length q1.ic, .slice q1.ha n1.holding.length q1.hc, .slice q1.wa n1.words.length q1.wc] 28) (.cells #[b8 r1.fn, b8 r1.ex, .slice b1 r1.bits.length e1, .slice a1 r1.words.length c1, b16 r1.at_, b16 r1.many] 36)
    have KA := Lib.hid (KV2.out.1.on hx1)
    have KH := Lib.hid (((KV2.out.2.on hx1).cons hx2).cons hx3)
    have HM1 : Hid (MeAt ((v1.alloc (.cells #[.slice q1.ca n1.coils.length q1.cc, .slice q1.ia n1.inputs.length q1.ic, .slice q1.ha n1.holding.length q1.hc, .slice q1.wa n1.words.length q1.wc] 28)).alloc (.cells #[b8 r1.fn, b8 r1.ex, .slice b1 r1.bits.length e1, .slice a1 r1.words.length c1, b16 r1.at_, b16 r1.many] 36)) ((v1.alloc (.cells #[.slice q1.ca n1.coils.length q1.cc, .slice q1.ia n1.inputs.length q1.ic, .slice q1.ha n1.holding.length q1.hc, .slice q1.wa n1.words.length q1.wc] 28)).alloc (.cells #[b8 r1.fn, b8 r1.ex, .slice b1 r1.bits.length e1, .slice a1 r1.words.length c1, b16 r1.at_, b16 r1.many] 36)).heap.size n1 q1 ∧ RepAt ((v1.alloc (.cells #[.slice q1.ca n1.coils.length q1.cc, .slice q1.ia n1.inputs.length q1.ic, .slice q1.ha n1.holding.length q1.hc, .slice q1.wa n1.words.length q1.wc] 28)).alloc (.cells #[b8 r1.fn, b8 r1.ex, .slice b1 r1.bits.length e1, .slice a1 r1.words.length c1, b16 r1.at_, b16 r1.many] 36)) ((v1.alloc (.cells #[.slice q1.ca n1.coils.length q1.cc, .slice q1.ia n1.inputs.length q1.ic, .slice q1.ha n1.holding.length q1.hc, .slice q1.wa n1.words.length q1.wc] 28)).alloc (.cells #[b8 r1.fn, b8 r1.ex, .slice b1 r1.bits.length e1, .slice a1 r1.words.length c1, b16 r1.at_, b16 r1.many] 36)).heap.size r1 a1 c1 b1 e1) := Lib.hid ⟨hme1.on hx1, hrp1.below hx1⟩
    clear hme1 hrp1 hx1 hx2 hx3 KV2
    obtain ⟨n2, r2, hd2, hf2⟩ : ∃ n r, doN sX mX ⟨16, 4, 2, 0, [1, 2], []⟩ = (n, r) ∧ (r.ex = 2) := ⟨_, _, rfl, mex2⟩
    have HF2 := Lib.hid hf2
    have s0 : ((v1.alloc (.cells #[.slice q1.ca n1.coils.length q1.cc, .slice q1.ia n1.inputs.length q1.ic, .slice q1.ha n1.holding.length q1.hc, .slice q1.wa n1.words.length q1.wc] 28)).alloc (.cells #[b8 r1.fn, b8 r1.ex, .slice b1 r1.bits.length e1, .slice a1 r1.words.length c1, b16 r1.at_, b16 r1.many] 36)).cell? ⟨w.heap.size + 1 + 1, 0, none⟩ = some (.slice (some ⟨w.heap.size, 0, none⟩) 1 1) := cell_of_row _ _ _ _ _ _ KA.out.t1
    have s1 : ((v1.alloc (.cells #[.slice q1.ca n1.coils.length q1.cc, .slice q1.ia n1.inputs.length q1.ic, .slice q1.ha n1.holding.length q1.hc, .slice q1.wa n1.words.length q1.wc] 28)).alloc (.cells #[b8 r1.fn, b8 r1.ex, .slice b1 r1.bits.length e1, .slice a1 r1.words.length c1, b16 r1.at_, b16 r1.many] 36)).cell? ⟨w.heap.size + 1 + 1, 1, none⟩ = some (.slice none 0 0) := cell_of_row _ _ _ _ _ _ KA.out.t1
    have s2 : ((v1.alloc (.cells #[.slice q1.ca n1.coils.length q1.cc, .slice q1.ia n1.inputs.length q1.ic, .slice q1.ha n1.holding.length q1.hc, .slice q1.wa n1.words.length q1.wc] 28)).alloc (.cells #[b8 r1.fn, b8 r1.ex, .slice b1 r1.bits.length e1, .slice a1 r1.words.length c1, b16 r1.at_, b16 r1.many] 36)).cell? ⟨w.heap.size + 1 + 1, 2, none⟩ = some (.slice (some ⟨w.heap.size + 1, 0, none⟩) 2 2) := cell_of_row _ _ _ _ _ _ KA.out.t1
    have s3 : ((v1.alloc (.cells #[.slice q1.ca n1.coils.length q1.cc, .slice q1.ia n1.inputs.length q1.ic, .slice q1.ha n1.holding.length q1.hc, .slice q1.wa n1.words.length q1.wc] 28)).alloc (.cells #[b8 r1.fn, b8 r1.ex, .slice b1 r1.bits.length e1, .slice a1 r1.words.length c1, b16 r1.at_, b16 r1.many] 36)).cell? ⟨w.heap.size + 1 + 1, 3, none⟩ = some (.slice none 0 0) := cell_of_row _ _ _ _ _ _ KA.out.t1
    have g0 : ((v1.alloc (.cells #[.slice q1.ca n1.coils.length q1.cc, .slice q1.ia n1.inputs.length q1.ic, .slice q1.ha n1.holding.length q1.hc, .slice q1.wa n1.words.length q1.wc] 28)).alloc (.cells #[b8 r1.fn, b8 r1.ex, .slice b1 r1.bits.length e1, .slice a1 r1.words.length c1, b16 r1.at_, b16 r1.many] 36)).cell? ⟨W1.heap.size + 1 + 1, 0, none⟩ = some (.slice (some ⟨W1.heap.size, 0, none⟩) 10 10) := cell_of_row _ _ _ _ _ _ KA.out.t2
    have g1 : ((v1.alloc (.cells #[.slice q1.ca n1.coils.length q1.cc, .slice q1.ia n1.inputs.length q1.ic, .slice q1.ha n1.holding.length q1.hc, .slice q1.wa n1.words.length q1.wc] 28)).alloc (.cells #[b8 r1.fn, b8 r1.ex, .slice b1 r1.bits.length e1, .slice a1 r1.words.length c1, b16 r1.at_, b16 r1.many] 36)).cell? ⟨W1.heap.size + 1 + 1, 1, none⟩ = some (.slice none 0 0) := cell_of_row _ _ _ _ _ _ KA.out.t2
    have g2 : ((v1.alloc (.cells #[.slice q1.ca n1.coils.length q1.cc, .slice q1.ia n1.inputs.length q1.ic, .slice q1.ha n1.holding.length q1.hc, .slice q1.wa n1.words.length q1.wc] 28)).alloc (.cells #[b8 r1.fn, b8 r1.ex, .slice b1 r1.bits.length e1, .slice a1 r1.words.length c1, b16 r1.at_, b16 r1.many] 36)).cell? ⟨W1.heap.size + 1 + 1, 2, none⟩ = some (.slice (some ⟨W1.heap.size + 1, 0, none⟩) 8 8) := cell_of_row _ _ _ _ _ _ KA.out.t2
    have g3 : ((v1.alloc (.cells #[.slice q1.ca n1.coils.length q1.cc, .slice q1.ia n1.inputs.length q1.ic, .slice q1.ha n1.holding.length q1.hc, .slice q1.wa n1.words.length q1.wc] 28)).alloc (.cells #[b8 r1.fn, b8 r1.ex, .slice b1 r1.bits.length e1, .slice a1 r1.words.length c1, b16 r1.at_, b16 r1.many] 36)).cell? ⟨W1.heap.size + 1 + 1, 3, none⟩ = some (.slice none 0 0) := cell_of_row _ _ _ _ _ _ KA.out.t2
    have hV := below_al ((v1.alloc (.cells #[.slice q1.ca n1.coils.length q1.cc, .slice q1.ia n1.inputs.length q1.ic, .slice q1.ha n1.holding.length q1.hc, .slice q1.wa n1.words.length q1.wc] 28)).alloc (.cells #[b8 r1.fn, b8 r1.ex, .slice b1 r1.bits.length e1, .slice a1 r1.words.length c1, b16 r1.at_, b16 r1.many] 36)) (.cells #[.int .u16 1, .int .u16 2] 29)
    have KV := Lib.hid (And.intro (KA.out.on hV) (KH.out.on hV))
    have hA : (((v1.alloc (.cells #[.slice q1.ca n1.coils.length q1.cc, .slice q1.ia n1.inputs.length q1.ic, .slice q1.ha n1.holding.length q1.hc, .slice q1.wa n1.words.length q1.wc] 28)).alloc (.cells #[b8 r1.fn, b8 r1.ex, .slice b1 r1.bits.length e1, .slice a1 r1.words.length c1, b16 r1.at_, b16 r1.many] 36)).alloc (.cells #[.int .u16 1, .int .u16 2] 29)).heap[v1.heap.size + 1 + 1]? = some (.cells #[.int .u16 1, .int .u16 2] 29 (0, 0)) := at_two v1 _ _ _
    have HDO := Lib.hid (Do_at sX (pX w.heap.size) mX ⟨some ⟨W1.heap.size, 0, none⟩, 10, none, 0, some ⟨W1.heap.size + 1, 0, none⟩, 8, none, 0⟩ ⟨16, 4, 2, 0, [1, 2], []⟩ (some ⟨v1.heap.size + 1 + 1, 0, none⟩) 2 none 0 (((v1.alloc (.cells #[.slice q1.ca n1.coils.length q1.cc, .slice q1.ia n1.inputs.length q1.ic, .slice q1.ha n1.holding.length q1.hc, .slice q1.wa n1.words.length q1.wc] 28)).alloc (.cells #[b8 r1.fn, b8 r1.ex, .slice b1 r1.bits.length e1, .slice a1 r1.words.length c1, b16 r1.at_, b16 r1.many] 36)).alloc (.cells #[.int .u16 1, .int .u16 2] 29)) KV.out.1.sp KV.out.1.me mX_small ⟨row_sl hA _ 2 rfl rfl (by omega), Sl.none_⟩ (by decide) (by decide))
    clear hA
    have HMV := Lib.hid (And.intro (HM1.out.1.on hV) (HM1.out.2.below hV))
    clear HM1
    clear hV
    rw [hd2] at HDO
    clear hd2 hf2 KA KH
    go_wp2_with fail
    generalize ((v1.alloc (.cells #[.slice q1.ca n1.coils.length q1.cc, .slice q1.ia n1.inputs.length q1.ic, .slice q1.ha n1.holding.length q1.hc, .slice q1.wa n1.words.length q1.wc] 28)).alloc (.cells #[b8 r1.fn, b8 r1.ex, .slice b1 r1.bits.length e1, .slice a1 r1.words.length c1, b16 r1.at_, b16 r1.many] 36)) = Z2 at *
    refine HDO.out.mono ?_
    rintro e v2 ⟨q2, a2, c2, b2, e2, rfl, hme2, hrp2, hb⟩
    have KV2 := Lib.hid (And.intro (KV.out.1.on hb) (KV.out.2.on hb))
    have HM2 := Lib.hid (And.intro (HMV.out.1.on hb) (HMV.out.2.below hb))
    clear HMV
    clear KV HDO hb s0 s1 s2 s3 g0 g1 g2 g3
    have hx1 : Below v2.heap.size v2 ((v2.alloc (.cells #[.slice q2.ca n2.coils.length q2.cc, .slice q2.ia n2.inputs.length q2.ic, .slice q2.ha n2.holding.length q2.hc, .slice q2.wa n2.words.length q2.wc] 28)).alloc (.cells #[b8 r2.fn, b8 r2.ex, .slice b2 r2.bits.length e2, .slice a2 r2.words.length c2, b16 r2.at_, b16 r2.many] 36)) := below_two v2 _ _
    have hx2 : ((v2.alloc (.cells #[.slice q2.ca n2.coils.length q2.cc, .slice q2.ia n2.inputs.length q2.ic, .slice q2.ha n2.holding.length q2.hc, .slice q2.wa n2.words.length q2.wc] 28)).alloc (.cells #[b8 r2.fn, b8 r2.ex, .slice b2 r2.bits.length e2, .slice a2 r2.words.length c2, b16 r2.at_, b16 r2.many] 36)).heap[v2.heap.size]? = some (.cells #[.slice q2.ca n2.coils.length q2.cc, .slice q2.ia n2.inputs.length q2.ic, .slice q2.ha n2.holding.length q2.hc, .slice q2.wa n2.words.length q2.wc] 28 (0, 0)) := (Below.heap_alloc _ _ _ (by simp)).trans (heap_alloc_new v2 _)
    have hx3 := at_one v2 (.cells #[.slice q2.ca n2.coils.length q2.cc, .slice q2.ia n2.inputs.length q2.ic, .slice q2.ha n2.holding.length q2.hc, .slice q2.wa n2.words.length q2.wc] 28) (.cells #[b8 r2.fn, b8 r2.ex, .slice b2 r2.bits.length e2, .slice a2 r2.words.length c2, b16 r2.at_, b16 r2.many] 36)
    have KA := Lib.hid (KV2.out.1.on hx1)
    have KH := Lib.hid (((KV2.out.2.on hx1).cons hx2).cons hx3)
    have HM1 : Hid (MeAt ((v2.alloc (.cells #[.slice q2.ca n2.coils.length q2.cc, .slice q2.ia n2.inputs.length q2.ic, .slice q2.ha n2.holding.length q2.hc, .slice q2.wa n2.words.length q2.wc] 28)).alloc (.cells #[b8 r2.fn, b8 r2.ex, .slice b2 r2.bits.length e2, .slice a2 r2.words.length c2, b16 r2.at_, b16 r2.many] 36)) ((v2.alloc (.cells #[.slice q2.ca n2.coils.length q2.cc, .slice q2.ia n2.inputs.length q2.ic, .slice q2.ha n2.holding.length q2.hc, .slice q2.wa n2.words.length q2.wc] 28)).alloc (.cells #[b8 r2.fn, b8 r2.ex, .slice b2 r2.bits.length e2, .slice a2 r2.words.length c2, b16 r2.at_, b16 r2.many] 36)).heap.size n1 q1 ∧ RepAt ((v2.alloc (.cells #[.slice q2.ca n2.coils.length q2.cc, .slice q2.ia n2.inputs.length q2.ic, .slice q2.ha n2.holding.length q2.hc, .slice q2.wa n2.words.length q2.wc] 28)).alloc (.cells #[b8 r2.fn, b8 r2.ex, .slice b2 r2.bits.length e2, .slice a2 r2.words.length c2, b16 r2.at_, b16 r2.many] 36)) ((v2.alloc (.cells #[.slice q2.ca n2.coils.length q2.cc, .slice q2.ia n2.inputs.length q2.ic, .slice q2.ha n2.holding.length q2.hc, .slice q2.wa n2.words.length q2.wc] 28)).alloc (.cells #[b8 r2.fn, b8 r2.ex, .slice b2 r2.bits.length e2, .slice a2 r2.words.length c2, b16 r2.at_, b16 r2.many] 36)).heap.size r1 a1 c1 b1 e1) := Lib.hid ⟨HM2.out.1.on hx1, HM2.out.2.below hx1⟩
    clear HM2
    clear hme2 hrp2 hx1 hx2 hx3 KV2
    obtain ⟨n3, r3, hd3, hf3⟩ : ∃ n r, doN sX mX ⟨3, 2, 4, 0, [], []⟩ = (n, r) ∧ (r.ex = 2) := ⟨_, _, rfl, mex3⟩
    have HF3 := Lib.hid hf3
    have s0 : ((v2.alloc (.cells #[.slice q2.ca n2.coils.length q2.cc, .slice q2.ia n2.inputs.length q2.ic, .slice q2.ha n2.holding.length q2.hc, .slice q2.wa n2.words.length q2.wc] 28)).alloc (.cells #[b8 r2.fn, b8 r2.ex, .slice b2 r2.bits.length e2, .slice a2 r2.words.length c2, b16 r2.at_, b16 r2.many] 36)).cell? ⟨w.heap.size + 1 + 1, 0, none⟩ = some (.slice (some ⟨w.heap.size, 0, none⟩) 1 1) := cell_of_row _ _ _ _ _ _ KA.out.t1
    have s1 : ((v2.alloc (.cells #[.slice q2.ca n2.coils.length q2.cc, .slice q2.ia n2.inputs.length q2.ic, .slice q2.ha n2.holding.length q2.hc, .slice q2.wa n2.words.length q2.wc] 28)).alloc (.cells #[b8 r2.fn, b8 r2.ex, .slice b2 r2.bits.length e2, .slice a2 r2.words.length c2, b16 r2.at_, b16 r2.many] 36)).cell? ⟨w.heap.size + 1 + 1, 1, none⟩ = some (.slice none 0 0) := cell_of_row _ _ _ _ _ _ KA.out.t1
    have s2 : ((v2.alloc (.cells #[.slice q2.ca n2.coils.length q2.cc, .slice q2.ia n2.inputs.length q2.ic, .slice q2.ha n2.holding.length q2.hc, .slice q2.wa n2.words.length q2.wc] 28)).alloc (.cells #[b8 r2.fn, b8 r2.ex, .slice b2 r2.bits.length e2, .slice a2 r2.words.length c2, b16 r2.at_, b16 r2.many] 36)).cell? ⟨w.heap.size + 1 + 1, 2, none⟩ = some (.slice (some ⟨w.heap.size + 1, 0, none⟩) 2 2) := cell_of_row _ _ _ _ _ _ KA.out.t1
    have s3 : ((v2.alloc (.cells #[.slice q2.ca n2.coils.length q2.cc, .slice q2.ia n2.inputs.length q2.ic, .slice q2.ha n2.holding.length q2.hc, .slice q2.wa n2.words.length q2.wc] 28)).alloc (.cells #[b8 r2.fn, b8 r2.ex, .slice b2 r2.bits.length e2, .slice a2 r2.words.length c2, b16 r2.at_, b16 r2.many] 36)).cell? ⟨w.heap.size + 1 + 1, 3, none⟩ = some (.slice none 0 0) := cell_of_row _ _ _ _ _ _ KA.out.t1
    have g0 : ((v2.alloc (.cells #[.slice q2.ca n2.coils.length q2.cc, .slice q2.ia n2.inputs.length q2.ic, .slice q2.ha n2.holding.length q2.hc, .slice q2.wa n2.words.length q2.wc] 28)).alloc (.cells #[b8 r2.fn, b8 r2.ex, .slice b2 r2.bits.length e2, .slice a2 r2.words.length c2, b16 r2.at_, b16 r2.many] 36)).cell? ⟨W1.heap.size + 1 + 1, 0, none⟩ = some (.slice (some ⟨W1.heap.size, 0, none⟩) 10 10) := cell_of_row _ _ _ _ _ _ KA.out.t2
    have g1 : ((v2.alloc (.cells #[.slice q2.ca n2.coils.length q2.cc, .slice q2.ia n2.inputs.length q2.ic, .slice q2.ha n2.holding.length q2.hc, .slice q2.wa n2.words.length q2.wc] 28)).alloc (.cells #[b8 r2.fn, b8 r2.ex, .slice b2 r2.bits.length e2, .slice a2 r2.words.length c2, b16 r2.at_, b16 r2.many] 36)).cell? ⟨W1.heap.size + 1 + 1, 1, none⟩ = some (.slice none 0 0) := cell_of_row _ _ _ _ _ _ KA.out.t2
    have g2 : ((v2.alloc (.cells #[.slice q2.ca n2.coils.length q2.cc, .slice q2.ia n2.inputs.length q2.ic, .slice q2.ha n2.holding.length q2.hc, .slice q2.wa n2.words.length q2.wc] 28)).alloc (.cells #[b8 r2.fn, b8 r2.ex, .slice b2 r2.bits.length e2, .slice a2 r2.words.length c2, b16 r2.at_, b16 r2.many] 36)).cell? ⟨W1.heap.size + 1 + 1, 2, none⟩ = some (.slice (some ⟨W1.heap.size + 1, 0, none⟩) 8 8) := cell_of_row _ _ _ _ _ _ KA.out.t2
    have g3 : ((v2.alloc (.cells #[.slice q2.ca n2.coils.length q2.cc, .slice q2.ia n2.inputs.length q2.ic, .slice q2.ha n2.holding.length q2.hc, .slice q2.wa n2.words.length q2.wc] 28)).alloc (.cells #[b8 r2.fn, b8 r2.ex, .slice b2 r2.bits.length e2, .slice a2 r2.words.length c2, b16 r2.at_, b16 r2.many] 36)).cell? ⟨W1.heap.size + 1 + 1, 3, none⟩ = some (.slice none 0 0) := cell_of_row _ _ _ _ _ _ KA.out.t2
    have KV := Lib.hid (And.intro KA.out KH.out)
    have HDO := Lib.hid (Do_at sX (pX w.heap.size) mX ⟨some ⟨W1.heap.size, 0, none⟩, 10, none, 0, some ⟨W1.heap.size + 1, 0, none⟩, 8, none, 0⟩ ⟨3, 2, 4, 0, [], []⟩ none 0 none 0 ((v2.alloc (.cells #[.slice q2.ca n2.coils.length q2.cc, .slice q2.ia n2.inputs.length q2.ic, .slice q2.ha n2.holding.length q2.hc, .slice q2.wa n2.words.length q2.wc] 28)).alloc (.cells #[b8 r2.fn, b8 r2.ex, .slice b2 r2.bits.length e2, .slice a2 r2.words.length c2, b16 r2.at_, b16 r2.many] 36)) KV.out.1.sp KV.out.1.me mX_small ⟨Sl.none_, Sl.none_⟩ (by decide) (by decide))
    have HMV := HM1
    clear HM1
    rw [hd3] at HDO
    clear hd3 hf3 KA KH
    go_wp2_with fail
    generalize ((v2.alloc (.cells #[.slice q2.ca n2.coils.length q2.cc, .slice q2.ia n2.inputs.length q2.ic, .slice q2.ha n2.holding.length q2.hc, .slice q2.wa n2.words.length q2.wc] 28)).alloc (.cells #[b8 r2.fn, b8 r2.ex, .slice b2 r2.bits.length e2, .slice a2 r2.words.length c2, b16 r2.at_, b16 r2.many] 36)) = Z3 at *
    refine HDO.out.mono ?_
    rintro e v3 ⟨q3, a3, c3, b3, e3, rfl, hme3, hrp3, hb⟩
    have KV2 := Lib.hid (And.intro (KV.out.1.on hb) (KV.out.2.on hb))
    have HM2 := Lib.hid (And.intro (HMV.out.1.on hb) (HMV.out.2.below hb))
    clear HMV
    clear KV HDO hb s0 s1 s2 s3 g0 g1 g2 g3
    have hx1 : Below v3.heap.size v3 ((v3.alloc (.cells #[.slice q3.ca n3.coils.length q3.cc, .slice q3.ia n3.inputs.length q3.ic, .slice q3.ha n3.holding.length q3.hc, .slice q3.wa n3.words.length q3.wc] 28)).alloc (.cells #[b8 r3.fn, b8 r3.ex, .slice b3 r3.bits.length e3, .slice a3 r3.words.length c3, b16 r3.at_, b16 r3.many] 36)) := below_two v3 _ _
    have hx2 : ((v3.alloc (.cells #[.slice q3.ca n3.coils.length q3.cc, .slice q3.ia n3.inputs.length q3.ic, .slice q3.ha n3.holding.length q3.hc, .slice q3.wa n3.words.length q3.wc] 28)).alloc (.cells #[b8 r3.fn, b8 r3.ex, .slice b3 r3.bits.length e3, .slice a3 r3.words.length c3, b16 r3.at_, b16 r3.many] 36)).heap[v3.heap.size]? = some (.cells #[.slice q3.ca n3.coils.length q3.cc, .slice q3.ia n3.inputs.length q3.ic, .slice q3.ha n3.holding.length q3.hc, .slice q3.wa n3.words.length q3.wc] 28 (0, 0)) := (Below.heap_alloc _ _ _ (by simp)).trans (heap_alloc_new v3 _)
    have hx3 := at_one v3 (.cells #[.slice q3.ca n3.coils.length q3.cc, .slice q3.ia n3.inputs.length q3.ic, .slice q3.ha n3.holding.length q3.hc, .slice q3.wa n3.words.length q3.wc] 28) (.cells #[b8 r3.fn, b8 r3.ex, .slice b3 r3.bits.length e3, .slice a3 r3.words.length c3, b16 r3.at_, b16 r3.many] 36)
    have KA := Lib.hid (KV2.out.1.on hx1)
    have KH := Lib.hid (((KV2.out.2.on hx1).cons hx2).cons hx3)
    have HM1 : Hid (MeAt ((v3.alloc (.cells #[.slice q3.ca n3.coils.length q3.cc, .slice q3.ia n3.inputs.length q3.ic, .slice q3.ha n3.holding.length q3.hc, .slice q3.wa n3.words.length q3.wc] 28)).alloc (.cells #[b8 r3.fn, b8 r3.ex, .slice b3 r3.bits.length e3, .slice a3 r3.words.length c3, b16 r3.at_, b16 r3.many] 36)) ((v3.alloc (.cells #[.slice q3.ca n3.coils.length q3.cc, .slice q3.ia n3.inputs.length q3.ic, .slice q3.ha n3.holding.length q3.hc, .slice q3.wa n3.words.length q3.wc] 28)).alloc (.cells #[b8 r3.fn, b8 r3.ex, .slice b3 r3.bits.length e3, .slice a3 r3.words.length c3, b16 r3.at_, b16 r3.many] 36)).heap.size n1 q1 ∧ RepAt ((v3.alloc (.cells #[.slice q3.ca n3.coils.length q3.cc, .slice q3.ia n3.inputs.length q3.ic, .slice q3.ha n3.holding.length q3.hc, .slice q3.wa n3.words.length q3.wc] 28)).alloc (.cells #[b8 r3.fn, b8 r3.ex, .slice b3 r3.bits.length e3, .slice a3 r3.words.length c3, b16 r3.at_, b16 r3.many] 36)) ((v3.alloc (.cells #[.slice q3.ca n3.coils.length q3.cc, .slice q3.ia n3.inputs.length q3.ic, .slice q3.ha n3.holding.length q3.hc, .slice q3.wa n3.words.length q3.wc] 28)).alloc (.cells #[b8 r3.fn, b8 r3.ex, .slice b3 r3.bits.length e3, .slice a3 r3.words.length c3, b16 r3.at_, b16 r3.many] 36)).heap.size r1 a1 c1 b1 e1) := Lib.hid ⟨HM2.out.1.on hx1, HM2.out.2.below hx1⟩
    clear HM2
    clear hme3 hrp3 hx1 hx2 hx3 KV2
    obtain ⟨n4, r4, hd4, hf4⟩ : ∃ n r, doN sX mX ⟨1, 0, 10, 0, [], []⟩ = (n, r) ∧ (r.bits.length = 16) := ⟨_, _, rfl, mex4⟩
    have HF4 := Lib.hid hf4
    have s0 : ((v3.alloc (.cells #[.slice q3.ca n3.coils.length q3.cc, .slice q3.ia n3.inputs.length q3.ic, .slice q3.ha n3.holding.length q3.hc, .slice q3.wa n3.words.length q3.wc] 28)).alloc (.cells #[b8 r3.fn, b8 r3.ex, .slice b3 r3.bits.length e3, .slice a3 r3.words.length c3, b16 r3.at_, b16 r3.many] 36)).cell? ⟨w.heap.size + 1 + 1, 0, none⟩ = some (.slice (some ⟨w.heap.size, 0, none⟩) 1 1) := cell_of_row _ _ _ _ _ _ KA.out.t1
    have s1 : ((v3.alloc (.cells #[.slice q3.ca n3.coils.length q3.cc, .slice q3.ia n3.inputs.length q3.ic, .slice q3.ha n3.holding.length q3.hc, .slice q3.wa n3.words.length q3.wc] 28)).alloc (.cells #[b8 r3.fn, b8 r3.ex, .slice b3 r3.bits.length e3, .slice a3 r3.words.length c3, b16 r3.at_, b16 r3.many] 36)).cell? ⟨w.heap.size + 1 + 1, 1, none⟩ = some (.slice none 0 0) := cell_of_row _ _ _ _ _ _ KA.out.t1
    have s2 : ((v3.alloc (.cells #[.slice q3.ca n3.coils.length q3.cc, .slice q3.ia n3.inputs.length q3.ic, .slice q3.ha n3.holding.length q3.hc, .slice q3.wa n3.words.length q3.wc] 28)).alloc (.cells #[b8 r3.fn, b8 r3.ex, .slice b3 r3.bits.length e3, .slice a3 r3.words.length c3, b16 r3.at_, b16 r3.many] 36)).cell? ⟨w.heap.size + 1 + 1, 2, none⟩ = some (.slice (some ⟨w.heap.size + 1, 0, none⟩) 2 2) := cell_of_row _ _ _ _ _ _ KA.out.t1
    have s3 : ((v3.alloc (.cells #[.slice q3.ca n3.coils.length q3.cc, .slice q3.ia n3.inputs.length q3.ic, .slice q3.ha n3.holding.length q3.hc, .slice q3.wa n3.words.length q3.wc] 28)).alloc (.cells #[b8 r3.fn, b8 r3.ex, .slice b3 r3.bits.length e3, .slice a3 r3.words.length c3, b16 r3.at_, b16 r3.many] 36)).cell? ⟨w.heap.size + 1 + 1, 3, none⟩ = some (.slice none 0 0) := cell_of_row _ _ _ _ _ _ KA.out.t1
    have g0 : ((v3.alloc (.cells #[.slice q3.ca n3.coils.length q3.cc, .slice q3.ia n3.inputs.length q3.ic, .slice q3.ha n3.holding.length q3.hc, .slice q3.wa n3.words.length q3.wc] 28)).alloc (.cells #[b8 r3.fn, b8 r3.ex, .slice b3 r3.bits.length e3, .slice a3 r3.words.length c3, b16 r3.at_, b16 r3.many] 36)).cell? ⟨W1.heap.size + 1 + 1, 0, none⟩ = some (.slice (some ⟨W1.heap.size, 0, none⟩) 10 10) := cell_of_row _ _ _ _ _ _ KA.out.t2
    have g1 : ((v3.alloc (.cells #[.slice q3.ca n3.coils.length q3.cc, .slice q3.ia n3.inputs.length q3.ic, .slice q3.ha n3.holding.length q3.hc, .slice q3.wa n3.words.length q3.wc] 28)).alloc (.cells #[b8 r3.fn, b8 r3.ex, .slice b3 r3.bits.length e3, .slice a3 r3.words.length c3, b16 r3.at_, b16 r3.many] 36)).cell? ⟨W1.heap.size + 1 + 1, 1, none⟩ = some (.slice none 0 0) := cell_of_row _ _ _ _ _ _ KA.out.t2
    have g2 : ((v3.alloc (.cells #[.slice q3.ca n3.coils.length q3.cc, .slice q3.ia n3.inputs.length q3.ic, .slice q3.ha n3.holding.length q3.hc, .slice q3.wa n3.words.length q3.wc] 28)).alloc (.cells #[b8 r3.fn, b8 r3.ex, .slice b3 r3.bits.length e3, .slice a3 r3.words.length c3, b16 r3.at_, b16 r3.many] 36)).cell? ⟨W1.heap.size + 1 + 1, 2, none⟩ = some (.slice (some ⟨W1.heap.size + 1, 0, none⟩) 8 8) := cell_of_row _ _ _ _ _ _ KA.out.t2
    have g3 : ((v3.alloc (.cells #[.slice q3.ca n3.coils.length q3.cc, .slice q3.ia n3.inputs.length q3.ic, .slice q3.ha n3.holding.length q3.hc, .slice q3.wa n3.words.length q3.wc] 28)).alloc (.cells #[b8 r3.fn, b8 r3.ex, .slice b3 r3.bits.length e3, .slice a3 r3.words.length c3, b16 r3.at_, b16 r3.many] 36)).cell? ⟨W1.heap.size + 1 + 1, 3, none⟩ = some (.slice none 0 0) := cell_of_row _ _ _ _ _ _ KA.out.t2
    have KV := Lib.hid (And.intro KA.out KH.out)
    have HDO := Lib.hid (Do_at sX (pX w.heap.size) mX ⟨some ⟨W1.heap.size, 0, none⟩, 10, none, 0, some ⟨W1.heap.size + 1, 0, none⟩, 8, none, 0⟩ ⟨1, 0, 10, 0, [], []⟩ none 0 none 0 ((v3.alloc (.cells #[.slice q3.ca n3.coils.length q3.cc, .slice q3.ia n3.inputs.length q3.ic, .slice q3.ha n3.holding.length q3.hc, .slice q3.wa n3.words.length q3.wc] 28)).alloc (.cells #[b8 r3.fn, b8 r3.ex, .slice b3 r3.bits.length e3, .slice a3 r3.words.length c3, b16 r3.at_, b16 r3.many] 36)) KV.out.1.sp KV.out.1.me mX_small ⟨Sl.none_, Sl.none_⟩ (by decide) (by decide))
    have HMV := HM1
    clear HM1
    rw [hd4] at HDO
    clear hd4 hf4 KA KH
    go_wp2_with fail
    generalize ((v3.alloc (.cells #[.slice q3.ca n3.coils.length q3.cc, .slice q3.ia n3.inputs.length q3.ic, .slice q3.ha n3.holding.length q3.hc, .slice q3.wa n3.words.length q3.wc] 28)).alloc (.cells #[b8 r3.fn, b8 r3.ex, .slice b3 r3.bits.length e3, .slice a3 r3.words.length c3, b16 r3.at_, b16 r3.many] 36)) = Z4 at *
    refine HDO.out.mono ?_
    rintro e v4 ⟨q4, a4, c4, b4, e4, rfl, hme4, hrp4, hb⟩
    have KV2 := Lib.hid (And.intro (KV.out.1.on hb) (KV.out.2.on hb))
    have HM2 := Lib.hid (And.intro (HMV.out.1.on hb) (HMV.out.2.below hb))
    clear HMV
    clear KV HDO hb s0 s1 s2 s3 g0 g1 g2 g3
    have hx1 : Below v4.heap.size v4 ((v4.alloc (.cells #[.slice q4.ca n4.coils.length q4.cc, .slice q4.ia n4.inputs.length q4.ic, .slice q4.ha n4.holding.length q4.hc, .slice q4.wa n4.words.length q4.wc] 28)).alloc (.cells #[b8 r4.fn, b8 r4.ex, .slice b4 r4.bits.length e4, .slice a4 r4.words.length c4, b16 r4.at_, b16 r4.many] 36)) := below_two v4 _ _
    have hx2 : ((v4.alloc (.cells #[.slice q4.ca n4.coils.length q4.cc, .slice q4.ia n4.inputs.length q4.ic, .slice q4.ha n4.holding.length q4.hc, .slice q4.wa n4.words.length q4.wc] 28)).alloc (.cells #[b8 r4.fn, b8 r4.ex, .slice b4 r4.bits.length e4, .slice a4 r4.words.length c4, b16 r4.at_, b16 r4.many] 36)).heap[v4.heap.size]? = some (.cells #[.slice q4.ca n4.coils.length q4.cc, .slice q4.ia n4.inputs.length q4.ic, .slice q4.ha n4.holding.length q4.hc, .slice q4.wa n4.words.length q4.wc] 28 (0, 0)) := (Below.heap_alloc _ _ _ (by simp)).trans (heap_alloc_new v4 _)
    have hx3 := at_one v4 (.cells #[.slice q4.ca n4.coils.length q4.cc, .slice q4.ia n4.inputs.length q4.ic, .slice q4.ha n4.holding.length q4.hc, .slice q4.wa n4.words.length q4.wc] 28) (.cells #[b8 r4.fn, b8 r4.ex, .slice b4 r4.bits.length e4, .slice a4 r4.words.length c4, b16 r4.at_, b16 r4.many] 36)
    have KA := Lib.hid (KV2.out.1.on hx1)
    have KH := Lib.hid (((KV2.out.2.on hx1).cons hx2).cons hx3)
    have HM1 : Hid (MeAt ((v4.alloc (.cells #[.slice q4.ca n4.coils.length q4.cc, .slice q4.ia n4.inputs.length q4.ic, .slice q4.ha n4.holding.length q4.hc, .slice q4.wa n4.words.length q4.wc] 28)).alloc (.cells #[b8 r4.fn, b8 r4.ex, .slice b4 r4.bits.length e4, .slice a4 r4.words.length c4, b16 r4.at_, b16 r4.many] 36)) ((v4.alloc (.cells #[.slice q4.ca n4.coils.length q4.cc, .slice q4.ia n4.inputs.length q4.ic, .slice q4.ha n4.holding.length q4.hc, .slice q4.wa n4.words.length q4.wc] 28)).alloc (.cells #[b8 r4.fn, b8 r4.ex, .slice b4 r4.bits.length e4, .slice a4 r4.words.length c4, b16 r4.at_, b16 r4.many] 36)).heap.size n1 q1 ∧ RepAt ((v4.alloc (.cells #[.slice q4.ca n4.coils.length q4.cc, .slice q4.ia n4.inputs.length q4.ic, .slice q4.ha n4.holding.length q4.hc, .slice q4.wa n4.words.length q4.wc] 28)).alloc (.cells #[b8 r4.fn, b8 r4.ex, .slice b4 r4.bits.length e4, .slice a4 r4.words.length c4, b16 r4.at_, b16 r4.many] 36)) ((v4.alloc (.cells #[.slice q4.ca n4.coils.length q4.cc, .slice q4.ia n4.inputs.length q4.ic, .slice q4.ha n4.holding.length q4.hc, .slice q4.wa n4.words.length q4.wc] 28)).alloc (.cells #[b8 r4.fn, b8 r4.ex, .slice b4 r4.bits.length e4, .slice a4 r4.words.length c4, b16 r4.at_, b16 r4.many] 36)).heap.size r1 a1 c1 b1 e1) := Lib.hid ⟨HM2.out.1.on hx1, HM2.out.2.below hx1⟩
    clear HM2
    clear hme4 hrp4 hx1 hx2 hx3 KV2
    have s0 : ((v4.alloc (.cells #[.slice q4.ca n4.coils.length q4.cc, .slice q4.ia n4.inputs.length q4.ic, .slice q4.ha n4.holding.length q4.hc, .slice q4.wa n4.words.length q4.wc] 28)).alloc (.cells #[b8 r4.fn, b8 r4.ex, .slice b4 r4.bits.length e4, .slice a4 r4.words.length c4, b16 r4.at_, b16 r4.many] 36)).cell? ⟨w.heap.size + 1 + 1, 0, none⟩ = some (.slice (some ⟨w.heap.size, 0, none⟩) 1 1) := cell_of_row _ _ _ _ _ _ KA.out.t1
    have s1 : ((v4.alloc (.cells #[.slice q4.ca n4.coils.length q4.cc, .slice q4.ia n4.inputs.length q4.ic, .slice q4.ha n4.holding.length q4.hc, .slice q4.wa n4.words.length q4.wc] 28)).alloc (.cells #[b8 r4.fn, b8 r4.ex, .slice b4 r4.bits.length e4, .slice a4 r4.words.length c4, b16 r4.at_, b16 r4.many] 36)).cell? ⟨w.heap.size + 1 + 1, 1, none⟩ = some (.slice none 0 0) := cell_of_row _ _ _ _ _ _ KA.out.t1
    have s2 : ((v4.alloc (.cells #[.slice q4.ca n4.coils.length q4.cc, .slice q4.ia n4.inputs.length q4.ic, .slice q4.ha n4.holding.length q4.hc, .slice q4.wa n4.words.length q4.wc] 28)).alloc (.cells #[b8 r4.fn, b8 r4.ex, .slice b4 r4.bits.length e4, .slice a4 r4.words.length c4, b16 r4.at_, b16 r4.many] 36)).cell? ⟨w.heap.size + 1 + 1, 2, none⟩ = some (.slice (some ⟨w.heap.size + 1, 0, none⟩) 2 2) := cell_of_row _ _ _ _ _ _ KA.out.t1
    have s3 : ((v4.alloc (.cells #[.slice q4.ca n4.coils.length q4.cc, .slice q4.ia n4.inputs.length q4.ic, .slice q4.ha n4.holding.length q4.hc, .slice q4.wa n4.words.length q4.wc] 28)).alloc (.cells #[b8 r4.fn, b8 r4.ex, .slice b4 r4.bits.length e4, .slice a4 r4.words.length c4, b16 r4.at_, b16 r4.many] 36)).cell? ⟨w.heap.size + 1 + 1, 3, none⟩ = some (.slice none 0 0) := cell_of_row _ _ _ _ _ _ KA.out.t1
    have g0 : ((v4.alloc (.cells #[.slice q4.ca n4.coils.length q4.cc, .slice q4.ia n4.inputs.length q4.ic, .slice q4.ha n4.holding.length q4.hc, .slice q4.wa n4.words.length q4.wc] 28)).alloc (.cells #[b8 r4.fn, b8 r4.ex, .slice b4 r4.bits.length e4, .slice a4 r4.words.length c4, b16 r4.at_, b16 r4.many] 36)).cell? ⟨W1.heap.size + 1 + 1, 0, none⟩ = some (.slice (some ⟨W1.heap.size, 0, none⟩) 10 10) := cell_of_row _ _ _ _ _ _ KA.out.t2
    have g1 : ((v4.alloc (.cells #[.slice q4.ca n4.coils.length q4.cc, .slice q4.ia n4.inputs.length q4.ic, .slice q4.ha n4.holding.length q4.hc, .slice q4.wa n4.words.length q4.wc] 28)).alloc (.cells #[b8 r4.fn, b8 r4.ex, .slice b4 r4.bits.length e4, .slice a4 r4.words.length c4, b16 r4.at_, b16 r4.many] 36)).cell? ⟨W1.heap.size + 1 + 1, 1, none⟩ = some (.slice none 0 0) := cell_of_row _ _ _ _ _ _ KA.out.t2
    have g2 : ((v4.alloc (.cells #[.slice q4.ca n4.coils.length q4.cc, .slice q4.ia n4.inputs.length q4.ic, .slice q4.ha n4.holding.length q4.hc, .slice q4.wa n4.words.length q4.wc] 28)).alloc (.cells #[b8 r4.fn, b8 r4.ex, .slice b4 r4.bits.length e4, .slice a4 r4.words.length c4, b16 r4.at_, b16 r4.many] 36)).cell? ⟨W1.heap.size + 1 + 1, 2, none⟩ = some (.slice (some ⟨W1.heap.size + 1, 0, none⟩) 8 8) := cell_of_row _ _ _ _ _ _ KA.out.t2
    have g3 : ((v4.alloc (.cells #[.slice q4.ca n4.coils.length q4.cc, .slice q4.ia n4.inputs.length q4.ic, .slice q4.ha n4.holding.length q4.hc, .slice q4.wa n4.words.length q4.wc] 28)).alloc (.cells #[b8 r4.fn, b8 r4.ex, .slice b4 r4.bits.length e4, .slice a4 r4.words.length c4, b16 r4.at_, b16 r4.many] 36)).cell? ⟨W1.heap.size + 1 + 1, 3, none⟩ = some (.slice none 0 0) := cell_of_row _ _ _ _ _ _ KA.out.t2
    have HRI := Lib.hid (MRight_any sX mX (pX w.heap.size) ⟨some ⟨W1.heap.size, 0, none⟩, 10, none, 0, some ⟨W1.heap.size + 1, 0, none⟩, 8, none, 0⟩ ((v4.alloc (.cells #[.slice q4.ca n4.coils.length q4.cc, .slice q4.ia n4.inputs.length q4.ic, .slice q4.ha n4.holding.length q4.hc, .slice q4.wa n4.words.length q4.wc] 28)).alloc (.cells #[b8 r4.fn, b8 r4.ex, .slice b4 r4.bits.length e4, .slice a4 r4.words.length c4, b16 r4.at_, b16 r4.many] 36)) KA.out.sp KA.out.me mX_small)
    rw [mex5] at HRI
    go_wp2_with fail
    generalize ((v4.alloc (.cells #[.slice q4.ca n4.coils.length q4.cc, .slice q4.ia n4.inputs.length q4.ic, .slice q4.ha n4.holding.length q4.hc, .slice q4.wa n4.words.length q4.wc] 28)).alloc (.cells #[b8 r4.fn, b8 r4.ex, .slice b4 r4.bits.length e4, .slice a4 r4.words.length c4, b16 r4.at_, b16 r4.many] 36)) = Z5 at *
    refine HRI.out.mono ?_
    rintro e z1 ⟨rfl, hb⟩
    have KZ := Lib.hid (And.intro (KA.out.below.trans (hb.mono KA.out.below.size)) (And.intro (KH.out.on hb) (And.intro (HM1.out.1.on hb) (HM1.out.2.below hb))))
    clear hb KA KH HM1 HRI s0 s1 s2 s3 g0 g1 g2 g3
    obtain ⟨hl, hi, hr⟩ := HF1.out
    subst hr
    obtain ⟨xb7, xo7, x7, hq7, -, hx7, hc7⟩ := KZ.out.2.2.1.holding.at_ (k := 7) (by omega)
    have h7 : x7 = 4 := by rw [hi] at hx7; injection hx7 with hx7; exact hx7.symm
    subst h7
    have u2 : z1.cell? ⟨v1.heap.size, 2, none⟩ = some (.slice q1.ha n1.holding.length q1.hc) := cell_of_row _ _ _ _ _ _ (KZ.out.2.1 (v1.heap.size, #[.slice q1.ca n1.coils.length q1.cc, .slice q1.ia n1.inputs.length q1.ic, .slice q1.ha n1.holding.length q1.hc, .slice q1.wa n1.words.length q1.wc], 28) (by simp))
    have y0 : z1.cell? ⟨v1.heap.size + 1, 0, none⟩ = some (b8 16) := cell_of_row _ _ _ _ _ _ (KZ.out.2.1 (v1.heap.size + 1, #[b8 16, b8 0, .slice b1 0 e1, .slice a1 0 c1, b16 4, b16 4], 36) (by simp))
    have y1 : z1.cell? ⟨v1.heap.size + 1, 1, none⟩ = some (b8 0) := cell_of_row _ _ _ _ _ _ (KZ.out.2.1 (v1.heap.size + 1, #[b8 16, b8 0, .slice b1 0 e1, .slice a1 0 c1, b16 4, b16 4], 36) (by simp))
    have y2 : z1.cell? ⟨v1.heap.size + 1, 2, none⟩ = some (.slice b1 0 e1) := cell_of_row _ _ _ _ _ _ (KZ.out.2.1 (v1.heap.size + 1, #[b8 16, b8 0, .slice b1 0 e1, .slice a1 0 c1, b16 4, b16 4], 36) (by simp))
    have y3 : z1.cell? ⟨v1.heap.size + 1, 3, none⟩ = some (.slice a1 0 c1) := cell_of_row _ _ _ _ _ _ (KZ.out.2.1 (v1.heap.size + 1, #[b8 16, b8 0, .slice b1 0 e1, .slice a1 0 c1, b16 4, b16 4], 36) (by simp))
    have y4 : z1.cell? ⟨v1.heap.size + 1, 4, none⟩ = some (b16 4) := cell_of_row _ _ _ _ _ _ (KZ.out.2.1 (v1.heap.size + 1, #[b8 16, b8 0, .slice b1 0 e1, .slice a1 0 c1, b16 4, b16 4], 36) (by simp))
    have y5 : z1.cell? ⟨v1.heap.size + 1, 5, none⟩ = some (b16 4) := cell_of_row _ _ _ _ _ _ (KZ.out.2.1 (v1.heap.size + 1, #[b8 16, b8 0, .slice b1 0 e1, .slice a1 0 c1, b16 4, b16 4], 36) (by simp))
    rw [hq7, hl] at u2
    have hcm := len_le KZ.out.2.2.1.holding
    have HSM := Lib.hid (RSame_any ⟨16, 0, [], [], 4, 4⟩ ⟨16, 0, [], [], 4, 4⟩ a1 c1 b1 e1 none 0 none 0 z1 KZ.out.2.2.2 (RepAt.nil rfl rfl))
    rw [decide_eq_true rfl] at HSM
    clear hl hi hx7
    go_wp2_with fail
    refine HSM.out.mono ?_
    rintro e z2 ⟨rfl, hb⟩
    have KZ2 := Lib.hid (And.intro (KZ.out.1.trans (hb.mono KZ.out.1.size)) (KZ.out.2.1.on hb))
    clear hb KZ HSM u2 y0 y1 y2 y3 y4 y5 hc7
    have p2 : z2.cell? ⟨v2.heap.size + 1, 1, none⟩ = some (b8 r2.ex) := cell_of_row _ _ _ _ _ _ (KZ2.out.2 (v2.heap.size + 1, #[b8 r2.fn, b8 r2.ex, .slice b2 r2.bits.length e2, .slice a2 r2.words.length c2, b16 r2.at_, b16 r2.many], 36) (by simp))
    rw [HF2.out] at p2
    have p3 : z2.cell? ⟨v3.heap.size + 1, 1, none⟩ = some (b8 r3.ex) := cell_of_row _ _ _ _ _ _ (KZ2.out.2 (v3.heap.size + 1, #[b8 r3.fn, b8 r3.ex, .slice b3 r3.bits.length e3, .slice a3 r3.words.length c3, b16 r3.at_, b16 r3.many], 36) (by simp))
    rw [HF3.out] at p3
    have p4 : z2.cell? ⟨v4.heap.size + 1, 2, none⟩ = some (.slice b4 r4.bits.length e4) := cell_of_row _ _ _ _ _ _ (KZ2.out.2 (v4.heap.size + 1, #[b8 r4.fn, b8 r4.ex, .slice b4 r4.bits.length e4, .slice a4 r4.words.length c4, b16 r4.at_, b16 r4.many], 36) (by simp))
    rw [HF4.out] at p4
    go_wp2_with fail
    go_ret
    exact Says.mk KZ2.out.1
  · have HQ := Lib.hid (HMK.out (((W1.alloc (.cells #[.bool false, .bool false, .bool false, .bool false, .bool false, .bool false, .bool false, .bool false, .bool false, .bool false] 4)).alloc (.cells #[.slice (some ⟨W1.heap.size, 0, none⟩) 10 10, .slice none 0 0, .slice (some ⟨W1.heap.size + 1 + 1, 0, none⟩) 8 8, .slice none 0 0] 28)).alloc (.cells #[.int .u16 0, .int .u16 0, .int .u16 0, .int .u16 0, .int .u16 0, .int .u16 0, .int .u16 0, .int .u16 0] 29)).drew (three_rows W1 _ _ _).1 (W1.heap.size) (W1.heap.size + 1 + 1) (W1.heap.size + 1) ((three_rows W1 (.cells #[.bool false, .bool false, .bool false, .bool false, .bool false, .bool false, .bool false, .bool false, .bool false, .bool false] 4) (.cells #[.slice (some ⟨W1.heap.size, 0, none⟩) 10 10, .slice none 0 0, .slice (some ⟨W1.heap.size + 1 + 1, 0, none⟩) 8 8, .slice none 0 0] 28) (.cells #[.int .u16 0, .int .u16 0, .int .u16 0, .int .u16 0, .int .u16 0, .int .u16 0, .int .u16 0, .int .u16 0] 29)).2.1) ((three_rows W1 (.cells #[.bool false, .bool false, .bool false, .bool false, .bool false, .bool false, .bool false, .bool false, .bool false, .bool false] 4) (.cells #[.slice (some ⟨W1.heap.size, 0, none⟩) 10 10, .slice none 0 0, .slice (some ⟨W1.heap.size + 1 + 1, 0, none⟩) 8 8, .slice none 0 0] 28) (.cells #[.int .u16 0, .int .u16 0, .int .u16 0, .int .u16 0, .int .u16 0, .int .u16 0, .int .u16 0, .int .u16 0] 29)).2.2.2) ((three_rows W1 (.cells #[.bool false, .bool false, .bool false, .bool false, .bool false, .bool false, .bool false, .bool false, .bool false, .bool false] 4) (.cells #[.slice (some ⟨W1.heap.size, 0, none⟩) 10 10, .slice none 0 0, .slice (some ⟨W1.heap.size + 1 + 1, 0, none⟩) 8 8, .slice none 0 0] 28) (.cells #[.int .u16 0, .int .u16 0, .int .u16 0, .int .u16 0, .int .u16 0, .int .u16 0, .int .u16 0, .int .u16 0] 29)).2.2.1))
    clear hmB hmW
    generalize (((W1.alloc (.cells #[.bool false, .bool false, .bool false, .bool false, .bool false, .bool false, .bool false, .bool false, .bool false, .bool false] 4)).alloc (.cells #[.slice (some ⟨W1.heap.size, 0, none⟩) 10 10, .slice none 0 0, .slice (some ⟨W1.heap.size + 1 + 1, 0, none⟩) 8 8, .slice none 0 0] 28)).alloc (.cells #[.int .u16 0, .int .u16 0, .int .u16 0, .int .u16 0, .int .u16 0, .int .u16 0, .int .u16 0, .int .u16 0] 29)).drew = WE at *
    have KA := HQ
    have KH : Hid (Has WE []) := Lib.hid fun x hx => by cases hx
    clear HQ HMK
    obtain ⟨n1, r1, hd1, hf1⟩ : ∃ n r, doN sX mX ⟨16, 4, 4, 0, [1, 2, 3, 4], []⟩ = (n, r) ∧ (n.holding.length = 8 ∧ n.holding[7]? = some 4 ∧ r = ⟨16, 0, [], [], 4, 4⟩) := ⟨_, _, rfl, mex1⟩
    have HF1 := Lib.hid hf1
    have s0 : WE.cell? ⟨w.heap.size + 1 + 1, 0, none⟩ = some (.slice (some ⟨w.heap.size, 0, none⟩) 1 1) := cell_of_row _ _ _ _ _ _ KA.out.t1
    have s1 : WE.cell? ⟨w.heap.size + 1 + 1, 1, none⟩ = some (.slice none 0 0) := cell_of_row _ _ _ _ _ _ KA.out.t1
    have s2 : WE.cell? ⟨w.heap.size + 1 + 1, 2, none⟩ = some (.slice (some ⟨w.heap.size + 1, 0, none⟩) 2 2) := cell_of_row _ _ _ _ _ _ KA.out.t1
    have s3 : WE.cell? ⟨w.heap.size + 1 + 1, 3, none⟩ = some (.slice none 0 0) := cell_of_row _ _ _ _ _ _ KA.out.t1
    have g0 : WE.cell? ⟨W1.heap.size + 1, 0, none⟩ = some (.slice (some ⟨W1.heap.size, 0, none⟩) 10 10) := cell_of_row _ _ _ _ _ _ KA.out.t2
    have g1 : WE.cell? ⟨W1.heap.size + 1, 1, none⟩ = some (.slice none 0 0) := cell_of_row _ _ _ _ _ _ KA.out.t2
    have g2 : WE.cell? ⟨W1.heap.size + 1, 2, none⟩ = some (.slice (some ⟨W1.heap.size + 1 + 1, 0, none⟩) 8 8) := cell_of_row _ _ _ _ _ _ KA.out.t2
    have g3 : WE.cell? ⟨W1.heap.size + 1, 3, none⟩ = some (.slice none 0 0) := cell_of_row _ _ _ _ _ _ KA.out.t2
    have hV := below_al WE (.cells #[.int .u16 1, .int .u16 2, .int .u16 3, .int .u16 4] 29)
    have KV := Lib.hid (And.intro (KA.out.on hV) (KH.out.on hV))
    have hA : (WE.alloc (.cells #[.int .u16 1, .int .u16 2, .int .u16 3, .int .u16 4] 29)).heap[WE.heap.size]? = some (.cells #[.int .u16 1, .int .u16 2, .int .u16 3, .int .u16 4] 29 (0, 0)) := heap_alloc_new WE _
    have HDO := Lib.hid (Do_at sX (pX w.heap.size) mX ⟨some ⟨W1.heap.size, 0, none⟩, 10, none, 0, some ⟨W1.heap.size + 1 + 1, 0, none⟩, 8, none, 0⟩ ⟨16, 4, 4, 0, [1, 2, 3, 4], []⟩ (some ⟨WE.heap.size, 0, none⟩) 4 none 0 (WE.alloc (.cells #[.int .u16 1, .int .u16 2, .int .u16 3, .int .u16 4] 29)) KV.out.1.sp KV.out.1.me mX_small ⟨row_sl hA _ 4 rfl rfl (by omega), Sl.none_⟩ (by decide) (by decide))
    clear hA
    clear hV
    rw [hd1] at HDO
    clear hd1 hf1 KA KH
    go_wp2_with fail
    refine HDO.out.mono ?_
    rintro e v1 ⟨q1, a1, c1, b1, e1, rfl, hme1, hrp1, hb⟩
    have KV2 := Lib.hid (And.intro (KV.out.1.on hb) (KV.out.2.on hb))
    clear KV HDO hb s0 s1 s2 s3 g0 g1 g2 g3
    have hx1 : Below v1.heap.size v1 ((v1.alloc (.cells #[.slice q1.ca n1.coils.length q1.cc, .slice q1.ia n1.inputs.length q1.ic, .slice q1.ha n1.holding.length q1.hc, .slice q1.wa n1.words.length q1.wc] 28)).alloc (.cells #[b8 r1.fn, b8 r1.ex, .slice b1 r1.bits.length e1, .slice a1 r1.words.length c1, b16 r1.at_, b16 r1.many] 36)) := below_two v1 _ _
    have hx2 : ((v1.alloc (.cells #[.slice q1.ca n1.coils.length q1.cc, .slice q1.ia n1.inputs.length q1.ic, .slice q1.ha n1.holding.length q1.hc, .slice q1.wa n1.words.length q1.wc] 28)).alloc (.cells #[b8 r1.fn, b8 r1.ex, .slice b1 r1.bits.length e1, .slice a1 r1.words.length c1, b16 r1.at_, b16 r1.many] 36)).heap[v1.heap.size]? = some (.cells #[.slice q1.ca n1.coils.length q1.cc, .slice q1.ia n1.inputs.length q1.ic, .slice q1.ha n1.holding.length q1.hc, .slice q1.wa n1.words.length q1.wc] 28 (0, 0)) := (Below.heap_alloc _ _ _ (by simp)).trans (heap_alloc_new v1 _)
    have hx3 := at_one v1 (.cells #[.slice q1.ca n1.coils.length q1.cc, .slice q1.ia n1.inputs.length q1.ic, .slice q1.ha n1.holding.length q1.hc, .slice q1.wa n1.words.length q1.wc] 28) (.cells #[b8 r1.fn, b8 r1.ex, .slice b1 r1.bits.length e1, .slice a1 r1.words.length c1, b16 r1.at_, b16 r1.many] 36)
    have KA := Lib.hid (KV2.out.1.on hx1)
    have KH := Lib.hid (((KV2.out.2.on hx1).cons hx2).cons hx3)
    have HM1 : Hid (MeAt ((v1.alloc (.cells #[.slice q1.ca n1.coils.length q1.cc, .slice q1.ia n1.inputs.length q1.ic, .slice q1.ha n1.holding.length q1.hc, .slice q1.wa n1.words.length q1.wc] 28)).alloc (.cells #[b8 r1.fn, b8 r1.ex, .slice b1 r1.bits.length e1, .slice a1 r1.words.length c1, b16 r1.at_, b16 r1.many] 36)) ((v1.alloc (.cells #[.slice q1.ca n1.coils.length q1.cc, .slice q1.ia n1.inputs.length q1.ic, .slice q1.ha n1.holding.length q1.hc, .slice q1.wa n1.words.length q1.wc] 28)).alloc (.cells #[b8 r1.fn, b8 r1.ex, .slice b1 r1.bits.length e1, .slice a1 r1.words.length c1, b16 r1.at_, b16 r1.many] 36)).heap.size n1 q1 ∧ RepAt ((v1.alloc (.cells #[.slice q1.ca n1.coils.length q1.cc, .slice q1.ia n1.inputs.length q1.ic, .slice q1.ha n1.holding.length q1.hc, .slice q1.wa n1.words.length q1.wc] 28)).alloc (.cells #[b8 r1.fn, b8 r1.ex, .slice b1 r1.bits.length e1, .slice a1 r1.words.length c1, b16 r1.at_, b16 r1.many] 36)) ((v1.alloc (.cells #[.slice q1.ca n1.coils.length q1.cc, .slice q1.ia n1.inputs.length q1.ic, .slice q1.ha n1.holding.length q1.hc, .slice q1.wa n1.words.length q1.wc] 28)).alloc (.cells #[b8 r1.fn, b8 r1.ex, .slice b1 r1.bits.length e1, .slice a1 r1.words.length c1, b16 r1.at_, b16 r1.many] 36)).heap.size r1 a1 c1 b1 e1) := Lib.hid ⟨hme1.on hx1, hrp1.below hx1⟩
    clear hme1 hrp1 hx1 hx2 hx3 KV2
    obtain ⟨n2, r2, hd2, hf2⟩ : ∃ n r, doN sX mX ⟨16, 4, 2, 0, [1, 2], []⟩ = (n, r) ∧ (r.ex = 2) := ⟨_, _, rfl, mex2⟩
    have HF2 := Lib.hid hf2
    have s0 : ((v1.alloc (.cells #[.slice q1.ca n1.coils.length q1.cc, .slice q1.ia n1.inputs.length q1.ic, .slice q1.ha n1.holding.length q1.hc, .slice q1.wa n1.words.length q1.wc] 28)).alloc (.cells #[b8 r1.fn, b8 r1.ex, .slice b1 r1.bits.length e1, .slice a1 r1.words.length c1, b16 r1.at_, b16 r1.many] 36)).cell? ⟨w.heap.size + 1 + 1, 0, none⟩ = some (.slice (some ⟨w.heap.size, 0, none⟩) 1 1) := cell_of_row _ _ _ _ _ _ KA.out.t1
    have s1 : ((v1.alloc (.cells #[.slice q1.ca n1.coils.length q1.cc, .slice q1.ia n1.inputs.length q1.ic, .slice q1.ha n1.holding.length q1.hc, .slice q1.wa n1.words.length q1.wc] 28)).alloc (.cells #[b8 r1.fn, b8 r1.ex, .slice b1 r1.bits.length e1, .slice a1 r1.words.length c1, b16 r1.at_, b16 r1.many] 36)).cell? ⟨w.heap.size + 1 + 1, 1, none⟩ = some (.slice none 0 0) := cell_of_row _ _ _ _ _ _ KA.out.t1
    have s2 : ((v1.alloc (.cells #[.slice q1.ca n1.coils.length q1.cc, .slice q1.ia n1.inputs.length q1.ic, .slice q1.ha n1.holding.length q1.hc, .slice q1.wa n1.words.length q1.wc] 28)).alloc (.cells #[b8 r1.fn, b8 r1.ex, .slice b1 r1.bits.length e1, .slice a1 r1.words.length c1, b16 r1.at_, b16 r1.many] 36)).cell? ⟨w.heap.size + 1 + 1, 2, none⟩ = some (.slice (some ⟨w.heap.size + 1, 0, none⟩) 2 2) := cell_of_row _ _ _ _ _ _ KA.out.t1
    have s3 : ((v1.alloc (.cells #[.slice q1.ca n1.coils.length q1.cc, .slice q1.ia n1.inputs.length q1.ic, .slice q1.ha n1.holding.length q1.hc, .slice q1.wa n1.words.length q1.wc] 28)).alloc (.cells #[b8 r1.fn, b8 r1.ex, .slice b1 r1.bits.length e1, .slice a1 r1.words.length c1, b16 r1.at_, b16 r1.many] 36)).cell? ⟨w.heap.size + 1 + 1, 3, none⟩ = some (.slice none 0 0) := cell_of_row _ _ _ _ _ _ KA.out.t1
    have g0 : ((v1.alloc (.cells #[.slice q1.ca n1.coils.length q1.cc, .slice q1.ia n1.inputs.length q1.ic, .slice q1.ha n1.holding.length q1.hc, .slice q1.wa n1.words.length q1.wc] 28)).alloc (.cells #[b8 r1.fn, b8 r1.ex, .slice b1 r1.bits.length e1, .slice a1 r1.words.length c1, b16 r1.at_, b16 r1.many] 36)).cell? ⟨W1.heap.size + 1, 0, none⟩ = some (.slice (some ⟨W1.heap.size, 0, none⟩) 10 10) := cell_of_row _ _ _ _ _ _ KA.out.t2
    have g1 : ((v1.alloc (.cells #[.slice q1.ca n1.coils.length q1.cc, .slice q1.ia n1.inputs.length q1.ic, .slice q1.ha n1.holding.length q1.hc, .slice q1.wa n1.words.length q1.wc] 28)).alloc (.cells #[b8 r1.fn, b8 r1.ex, .slice b1 r1.bits.length e1, .slice a1 r1.words.length c1, b16 r1.at_, b16 r1.many] 36)).cell? ⟨W1.heap.size + 1, 1, none⟩ = some (.slice none 0 0) := cell_of_row _ _ _ _ _ _ KA.out.t2
    have g2 : ((v1.alloc (.cells #[.slice q1.ca n1.coils.length q1.cc, .slice q1.ia n1.inputs.length q1.ic, .slice q1.ha n1.holding.length q1.hc, .slice q1.wa n1.words.length q1.wc] 28)).alloc (.cells #[b8 r1.fn, b8 r1.ex, .slice b1 r1.bits.length e1, .slice a1 r1.words.length c1, b16 r1.at_, b16 r1.many] 36)).cell? ⟨W1.heap.size + 1, 2, none⟩ = some (.slice (some ⟨W1.heap.size + 1 + 1, 0, none⟩) 8 8) := cell_of_row _ _ _ _ _ _ KA.out.t2
    have g3 : ((v1.alloc (.cells #[.slice q1.ca n1.coils.length q1.cc, .slice q1.ia n1.inputs.length q1.ic, .slice q1.ha n1.holding.length q1.hc, .slice q1.wa n1.words.length q1.wc] 28)).alloc (.cells #[b8 r1.fn, b8 r1.ex, .slice b1 r1.bits.length e1, .slice a1 r1.words.length c1, b16 r1.at_, b16 r1.many] 36)).cell? ⟨W1.heap.size + 1, 3, none⟩ = some (.slice none 0 0) := cell_of_row _ _ _ _ _ _ KA.out.t2
    have hV := below_al ((v1.alloc (.cells #[.slice q1.ca n1.coils.length q1.cc, .slice q1.ia n1.inputs.length q1.ic, .slice q1.ha n1.holding.length q1.hc, .slice q1.wa n1.words.length q1.wc] 28)).alloc (.cells #[b8 r1.fn, b8 r1.ex, .slice b1 r1.bits.length e1, .slice a1 r1.words.length c1, b16 r1.at_, b16 r1.many] 36)) (.cells #[.int .u16 1, .int .u16 2] 29)
    have KV := Lib.hid (And.intro (KA.out.on hV) (KH.out.on hV))
    have hA : (((v1.alloc (.cells #[.slice q1.ca n1.coils.length q1.cc, .slice q1.ia n1.inputs.length q1.ic, .slice q1.ha n1.holding.length q1.hc, .slice q1.wa n1.words.length q1.wc] 28)).alloc (.cells #[b8 r1.fn, b8 r1.ex, .slice b1 r1.bits.length e1, .slice a1 r1.words.length c1, b16 r1.at_, b16 r1.many] 36)).alloc (.cells #[.int .u16 1, .int .u16 2] 29)).heap[v1.heap.size + 1 + 1]? = some (.cells #[.int .u16 1, .int .u16 2] 29 (0, 0)) := at_two v1 _ _ _
    have HDO := Lib.hid (Do_at sX (pX w.heap.size) mX ⟨some ⟨W1.heap.size, 0, none⟩, 10, none, 0, some ⟨W1.heap.size + 1 + 1, 0, none⟩, 8, none, 0⟩ ⟨16, 4, 2, 0, [1, 2], []⟩ (some ⟨v1.heap.size + 1 + 1, 0, none⟩) 2 none 0 (((v1.alloc (.cells #[.slice q1.ca n1.coils.length q1.cc, .slice q1.ia n1.inputs.length q1.ic, .slice q1.ha n1.holding.length q1.hc, .slice q1.wa n1.words.length q1.wc] 28)).alloc (.cells #[b8 r1.fn, b8 r1.ex, .slice b1 r1.bits.length e1, .slice a1 r1.words.length c1, b16 r1.at_, b16 r1.many] 36)).alloc (.cells #[.int .u16 1, .int .u16 2] 29)) KV.out.1.sp KV.out.1.me mX_small ⟨row_sl hA _ 2 rfl rfl (by omega), Sl.none_⟩ (by decide) (by decide))
    clear hA
    have HMV := Lib.hid (And.intro (HM1.out.1.on hV) (HM1.out.2.below hV))
    clear HM1
    clear hV
    rw [hd2] at HDO
    clear hd2 hf2 KA KH
    go_wp2_with fail
    generalize ((v1.alloc (.cells #[.slice q1.ca n1.coils.length q1.cc, .slice q1.ia n1.inputs.length q1.ic, .slice q1.ha n1.holding.length q1.hc, .slice q1.wa n1.words.length q1.wc] 28)).alloc (.cells #[b8 r1.fn, b8 r1.ex, .slice b1 r1.bits.length e1, .slice a1 r1.words.length c1, b16 r1.at_, b16 r1.many] 36)) = Z2 at *
    refine HDO.out.mono ?_
    rintro e v2 ⟨q2, a2, c2, b2, e2, rfl, hme2, hrp2, hb⟩
    have KV2 := Lib.hid (And.intro (KV.out.1.on hb) (KV.out.2.on hb))
    have HM2 := Lib.hid (And.intro (HMV.out.1.on hb) (HMV.out.2.below hb))
    clear HMV
    clear KV HDO hb s0 s1 s2 s3 g0 g1 g2 g3
    have hx1 : Below v2.heap.size v2 ((v2.alloc (.cells #[.slice q2.ca n2.coils.length q2.cc, .slice q2.ia n2.inputs.length q2.ic, .slice q2.ha n2.holding.length q2.hc, .slice q2.wa n2.words.length q2.wc] 28)).alloc (.cells #[b8 r2.fn, b8 r2.ex, .slice b2 r2.bits.length e2, .slice a2 r2.words.length c2, b16 r2.at_, b16 r2.many] 36)) := below_two v2 _ _
    have hx2 : ((v2.alloc (.cells #[.slice q2.ca n2.coils.length q2.cc, .slice q2.ia n2.inputs.length q2.ic, .slice q2.ha n2.holding.length q2.hc, .slice q2.wa n2.words.length q2.wc] 28)).alloc (.cells #[b8 r2.fn, b8 r2.ex, .slice b2 r2.bits.length e2, .slice a2 r2.words.length c2, b16 r2.at_, b16 r2.many] 36)).heap[v2.heap.size]? = some (.cells #[.slice q2.ca n2.coils.length q2.cc, .slice q2.ia n2.inputs.length q2.ic, .slice q2.ha n2.holding.length q2.hc, .slice q2.wa n2.words.length q2.wc] 28 (0, 0)) := (Below.heap_alloc _ _ _ (by simp)).trans (heap_alloc_new v2 _)
    have hx3 := at_one v2 (.cells #[.slice q2.ca n2.coils.length q2.cc, .slice q2.ia n2.inputs.length q2.ic, .slice q2.ha n2.holding.length q2.hc, .slice q2.wa n2.words.length q2.wc] 28) (.cells #[b8 r2.fn, b8 r2.ex, .slice b2 r2.bits.length e2, .slice a2 r2.words.length c2, b16 r2.at_, b16 r2.many] 36)
    have KA := Lib.hid (KV2.out.1.on hx1)
    have KH := Lib.hid (((KV2.out.2.on hx1).cons hx2).cons hx3)
    have HM1 : Hid (MeAt ((v2.alloc (.cells #[.slice q2.ca n2.coils.length q2.cc, .slice q2.ia n2.inputs.length q2.ic, .slice q2.ha n2.holding.length q2.hc, .slice q2.wa n2.words.length q2.wc] 28)).alloc (.cells #[b8 r2.fn, b8 r2.ex, .slice b2 r2.bits.length e2, .slice a2 r2.words.length c2, b16 r2.at_, b16 r2.many] 36)) ((v2.alloc (.cells #[.slice q2.ca n2.coils.length q2.cc, .slice q2.ia n2.inputs.length q2.ic, .slice q2.ha n2.holding.length q2.hc, .slice q2.wa n2.words.length q2.wc] 28)).alloc (.cells #[b8 r2.fn, b8 r2.ex, .slice b2 r2.bits.length e2, .slice a2 r2.words.length c2, b16 r2.at_, b16 r2.many] 36)).heap.size n1 q1 ∧ RepAt ((v2.alloc (.cells #[.slice q2.ca n2.coils.length q2.cc, .slice q2.ia n2.inputs.length q2.ic, .slice q2.ha n2.holding.length q2.hc, .slice q2.wa n2.words.length q2.wc] 28)).alloc (.cells #[b8 r2.fn, b8 r2.ex, .slice b2 r2.bits.length e2, .slice a2 r2.words.length c2, b16 r2.at_, b16 r2.many] 36)) ((v2.alloc (.cells #[.slice q2.ca n2.coils.length q2.cc, .slice q2.ia n2.inputs.length q2.ic, .slice q2.ha n2.holding.length q2.hc, .slice q2.wa n2.words.length q2.wc] 28)).alloc (.cells #[b8 r2.fn, b8 r2.ex, .slice b2 r2.bits.length e2, .slice a2 r2.words.length c2, b16 r2.at_, b16 r2.many] 36)).heap.size r1 a1 c1 b1 e1) := Lib.hid ⟨HM2.out.1.on hx1, HM2.out.2.below hx1⟩
    clear HM2
    clear hme2 hrp2 hx1 hx2 hx3 KV2
    obtain ⟨n3, r3, hd3, hf3⟩ : ∃ n r, doN sX mX ⟨3, 2, 4, 0, [], []⟩ = (n, r) ∧ (r.ex = 2) := ⟨_, _, rfl, mex3⟩
    have HF3 := Lib.hid hf3
    have s0 : ((v2.alloc (.cells #[.slice q2.ca n2.coils.length q2.cc, .slice q2.ia n2.inputs.length q2.ic, .slice q2.ha n2.holding.length q2.hc, .slice q2.wa n2.words.length q2.wc] 28)).alloc (.cells #[b8 r2.fn, b8 r2.ex, .slice b2 r2.bits.length e2, .slice a2 r2.words.length c2, b16 r2.at_, b16 r2.many] 36)).cell? ⟨w.heap.size + 1 + 1, 0, none⟩ = some (.slice (some ⟨w.heap.size, 0, none⟩) 1 1) := cell_of_row _ _ _ _ _ _ KA.out.t1
    have s1 : ((v2.alloc (.cells #[.slice q2.ca n2.coils.length q2.cc, .slice q2.ia n2.inputs.length q2.ic, .slice q2.ha n2.holding.length q2.hc, .slice q2.wa n2.words.length q2.wc] 28)).alloc (.cells #[b8 r2.fn, b8 r2.ex, .slice b2 r2.bits.length e2, .slice a2 r2.words.length c2, b16 r2.at_, b16 r2.many] 36)).cell? ⟨w.heap.size + 1 + 1, 1, none⟩ = some (.slice none 0 0) := cell_of_row _ _ _ _ _ _ KA.out.t1
    have s2 : ((v2.alloc (.cells #[.slice q2.ca n2.coils.length q2.cc, .slice q2.ia n2.inputs.length q2.ic, .slice q2.ha n2.holding.length q2.hc, .slice q2.wa n2.words.length q2.wc] 28)).alloc (.cells #[b8 r2.fn, b8 r2.ex, .slice b2 r2.bits.length e2, .slice a2 r2.words.length c2, b16 r2.at_, b16 r2.many] 36)).cell? ⟨w.heap.size + 1 + 1, 2, none⟩ = some (.slice (some ⟨w.heap.size + 1, 0, none⟩) 2 2) := cell_of_row _ _ _ _ _ _ KA.out.t1
    have s3 : ((v2.alloc (.cells #[.slice q2.ca n2.coils.length q2.cc, .slice q2.ia n2.inputs.length q2.ic, .slice q2.ha n2.holding.length q2.hc, .slice q2.wa n2.words.length q2.wc] 28)).alloc (.cells #[b8 r2.fn, b8 r2.ex, .slice b2 r2.bits.length e2, .slice a2 r2.words.length c2, b16 r2.at_, b16 r2.many] 36)).cell? ⟨w.heap.size + 1 + 1, 3, none⟩ = some (.slice none 0 0) := cell_of_row _ _ _ _ _ _ KA.out.t1
    have g0 : ((v2.alloc (.cells #[.slice q2.ca n2.coils.length q2.cc, .slice q2.ia n2.inputs.length q2.ic, .slice q2.ha n2.holding.length q2.hc, .slice q2.wa n2.words.length q2.wc] 28)).alloc (.cells #[b8 r2.fn, b8 r2.ex, .slice b2 r2.bits.length e2, .slice a2 r2.words.length c2, b16 r2.at_, b16 r2.many] 36)).cell? ⟨W1.heap.size + 1, 0, none⟩ = some (.slice (some ⟨W1.heap.size, 0, none⟩) 10 10) := cell_of_row _ _ _ _ _ _ KA.out.t2
    have g1 : ((v2.alloc (.cells #[.slice q2.ca n2.coils.length q2.cc, .slice q2.ia n2.inputs.length q2.ic, .slice q2.ha n2.holding.length q2.hc, .slice q2.wa n2.words.length q2.wc] 28)).alloc (.cells #[b8 r2.fn, b8 r2.ex, .slice b2 r2.bits.length e2, .slice a2 r2.words.length c2, b16 r2.at_, b16 r2.many] 36)).cell? ⟨W1.heap.size + 1, 1, none⟩ = some (.slice none 0 0) := cell_of_row _ _ _ _ _ _ KA.out.t2
    have g2 : ((v2.alloc (.cells #[.slice q2.ca n2.coils.length q2.cc, .slice q2.ia n2.inputs.length q2.ic, .slice q2.ha n2.holding.length q2.hc, .slice q2.wa n2.words.length q2.wc] 28)).alloc (.cells #[b8 r2.fn, b8 r2.ex, .slice b2 r2.bits.length e2, .slice a2 r2.words.length c2, b16 r2.at_, b16 r2.many] 36)).cell? ⟨W1.heap.size + 1, 2, none⟩ = some (.slice (some ⟨W1.heap.size + 1 + 1, 0, none⟩) 8 8) := cell_of_row _ _ _ _ _ _ KA.out.t2
    have g3 : ((v2.alloc (.cells #[.slice q2.ca n2.coils.length q2.cc, .slice q2.ia n2.inputs.length q2.ic, .slice q2.ha n2.holding.length q2.hc, .slice q2.wa n2.words.length q2.wc] 28)).alloc (.cells #[b8 r2.fn, b8 r2.ex, .slice b2 r2.bits.length e2, .slice a2 r2.words.length c2, b16 r2.at_, b16 r2.many] 36)).cell? ⟨W1.heap.size + 1, 3, none⟩ = some (.slice none 0 0) := cell_of_row _ _ _ _ _ _ KA.out.t2
    have KV := Lib.hid (And.intro KA.out KH.out)
    have HDO := Lib.hid (Do_at sX (pX w.heap.size) mX ⟨some ⟨W1.heap.size, 0, none⟩, 10, none, 0, some ⟨W1.heap.size + 1 + 1, 0, none⟩, 8, none, 0⟩ ⟨3, 2, 4, 0, [], []⟩ none 0 none 0 ((v2.alloc (.cells #[.slice q2.ca n2.coils.length q2.cc, .slice q2.ia n2.inputs.length q2.ic, .slice q2.ha n2.holding.length q2.hc, .slice q2.wa n2.words.length q2.wc] 28)).alloc (.cells #[b8 r2.fn, b8 r2.ex, .slice b2 r2.bits.length e2, .slice a2 r2.words.length c2, b16 r2.at_, b16 r2.many] 36)) KV.out.1.sp KV.out.1.me mX_small ⟨Sl.none_, Sl.none_⟩ (by decide) (by decide))
    have HMV := HM1
    clear HM1
    rw [hd3] at HDO
    clear hd3 hf3 KA KH
    go_wp2_with fail
    generalize ((v2.alloc (.cells #[.slice q2.ca n2.coils.length q2.cc, .slice q2.ia n2.inputs.length q2.ic, .slice q2.ha n2.holding.length q2.hc, .slice q2.wa n2.words.length q2.wc] 28)).alloc (.cells #[b8 r2.fn, b8 r2.ex, .slice b2 r2.bits.length e2, .slice a2 r2.words.length c2, b16 r2.at_, b16 r2.many] 36)) = Z3 at *
    refine HDO.out.mono ?_
    rintro e v3 ⟨q3, a3, c3, b3, e3, rfl, hme3, hrp3, hb⟩
    have KV2 := Lib.hid (And.intro (KV.out.1.on hb) (KV.out.2.on hb))
    have HM2 := Lib.hid (And.intro (HMV.out.1.on hb) (HMV.out.2.below hb))
    clear HMV
    clear KV HDO hb s0 s1 s2 s3 g0 g1 g2 g3
    have hx1 : Below v3.heap.size v3 ((v3.alloc (.cells #[.slice q3.ca n3.coils.length q3.cc, .slice q3.ia n3.inputs.length q3.ic, .slice q3.ha n3.holding.length q3.hc, .slice q3.wa n3.words.length q3.wc] 28)).alloc (.cells #[b8 r3.fn, b8 r3.ex, .slice b3 r3.bits.length e3, .slice a3 r3.words.length c3, b16 r3.at_, b16 r3.many] 36)) := below_two v3 _ _
    have hx2 : ((v3.alloc (.cells #[.slice q3.ca n3.coils.length q3.cc, .slice q3.ia n3.inputs.length q3.ic, .slice q3.ha n3.holding.length q3.hc, .slice q3.wa n3.words.length q3.wc] 28)).alloc (.cells #[b8 r3.fn, b8 r3.ex, .slice b3 r3.bits.length e3, .slice a3 r3.words.length c3, b16 r3.at_, b16 r3.many] 36)).heap[v3.heap.size]? = some (.cells #[.slice q3.ca n3.coils.length q3.cc, .slice q3.ia n3.inputs.length q3.ic, .slice q3.ha n3.holding.length q3.hc, .slice q3.wa n3.words.length q3.wc] 28 (0, 0)) := (Below.heap_alloc _ _ _ (by simp)).trans (heap_alloc_new v3 _)
    have hx3 := at_one v3 (.cells #[.slice q3.ca n3.coils.length q3.cc, .slice q3.ia n3.inputs.length q3.ic, .slice q3.ha n3.holding.length q3.hc, .slice q3.wa n3.words.length q3.wc] 28) (.cells #[b8 r3.fn, b8 r3.ex, .slice b3 r3.bits.length e3, .slice a3 r3.words.length c3, b16 r3.at_, b16 r3.many] 36)
    have KA := Lib.hid (KV2.out.1.on hx1)
    have KH := Lib.hid (((KV2.out.2.on hx1).cons hx2).cons hx3)
    have HM1 : Hid (MeAt ((v3.alloc (.cells #[.slice q3.ca n3.coils.length q3.cc, .slice q3.ia n3.inputs.length q3.ic, .slice q3.ha n3.holding.length q3.hc, .slice q3.wa n3.words.length q3.wc] 28)).alloc (.cells #[b8 r3.fn, b8 r3.ex, .slice b3 r3.bits.length e3, .slice a3 r3.words.length c3, b16 r3.at_, b16 r3.many] 36)) ((v3.alloc (.cells #[.slice q3.ca n3.coils.length q3.cc, .slice q3.ia n3.inputs.length q3.ic, .slice q3.ha n3.holding.length q3.hc, .slice q3.wa n3.words.length q3.wc] 28)).alloc (.cells #[b8 r3.fn, b8 r3.ex, .slice b3 r3.bits.length e3, .slice a3 r3.words.length c3, b16 r3.at_, b16 r3.many] 36)).heap.size n1 q1 ∧ RepAt ((v3.alloc (.cells #[.slice q3.ca n3.coils.length q3.cc, .slice q3.ia n3.inputs.length q3.ic, .slice q3.ha n3.holding.length q3.hc, .slice q3.wa n3.words.length q3.wc] 28)).alloc (.cells #[b8 r3.fn, b8 r3.ex, .slice b3 r3.bits.length e3, .slice a3 r3.words.length c3, b16 r3.at_, b16 r3.many] 36)) ((v3.alloc (.cells #[.slice q3.ca n3.coils.length q3.cc, .slice q3.ia n3.inputs.length q3.ic, .slice q3.ha n3.holding.length q3.hc, .slice q3.wa n3.words.length q3.wc] 28)).alloc (.cells #[b8 r3.fn, b8 r3.ex, .slice b3 r3.bits.length e3, .slice a3 r3.words.length c3, b16 r3.at_, b16 r3.many] 36)).heap.size r1 a1 c1 b1 e1) := Lib.hid ⟨HM2.out.1.on hx1, HM2.out.2.below hx1⟩
    clear HM2
    clear hme3 hrp3 hx1 hx2 hx3 KV2
    obtain ⟨n4, r4, hd4, hf4⟩ : ∃ n r, doN sX mX ⟨1, 0, 10, 0, [], []⟩ = (n, r) ∧ (r.bits.length = 16) := ⟨_, _, rfl, mex4⟩
    have HF4 := Lib.hid hf4
    have s0 : ((v3.alloc (.cells #[.slice q3.ca n3.coils.length q3.cc, .slice q3.ia n3.inputs.length q3.ic, .slice q3.ha n3.holding.length q3.hc, .slice q3.wa n3.words.length q3.wc] 28)).alloc (.cells #[b8 r3.fn, b8 r3.ex, .slice b3 r3.bits.length e3, .slice a3 r3.words.length c3, b16 r3.at_, b16 r3.many] 36)).cell? ⟨w.heap.size + 1 + 1, 0, none⟩ = some (.slice (some ⟨w.heap.size, 0, none⟩) 1 1) := cell_of_row _ _ _ _ _ _ KA.out.t1
    have s1 : ((v3.alloc (.cells #[.slice q3.ca n3.coils.length q3.cc, .slice q3.ia n3.inputs.length q3.ic, .slice q3.ha n3.holding.length q3.hc, .slice q3.wa n3.words.length q3.wc] 28)).alloc (.cells #[b8 r3.fn, b8 r3.ex, .slice b3 r3.bits.length e3, .slice a3 r3.words.length c3, b16 r3.at_, b16 r3.many] 36)).cell? ⟨w.heap.size + 1 + 1, 1, none⟩ = some (.slice none 0 0) := cell_of_row _ _ _ _ _ _ KA.out.t1
    have s2 : ((v3.alloc (.cells #[.slice q3.ca n3.coils.length q3.cc, .slice q3.ia n3.inputs.length q3.ic, .slice q3.ha n3.holding.length q3.hc, .slice q3.wa n3.words.length q3.wc] 28)).alloc (.cells #[b8 r3.fn, b8 r3.ex, .slice b3 r3.bits.length e3, .slice a3 r3.words.length c3, b16 r3.at_, b16 r3.many] 36)).cell? ⟨w.heap.size + 1 + 1, 2, none⟩ = some (.slice (some ⟨w.heap.size + 1, 0, none⟩) 2 2) := cell_of_row _ _ _ _ _ _ KA.out.t1
    have s3 : ((v3.alloc (.cells #[.slice q3.ca n3.coils.length q3.cc, .slice q3.ia n3.inputs.length q3.ic, .slice q3.ha n3.holding.length q3.hc, .slice q3.wa n3.words.length q3.wc] 28)).alloc (.cells #[b8 r3.fn, b8 r3.ex, .slice b3 r3.bits.length e3, .slice a3 r3.words.length c3, b16 r3.at_, b16 r3.many] 36)).cell? ⟨w.heap.size + 1 + 1, 3, none⟩ = some (.slice none 0 0) := cell_of_row _ _ _ _ _ _ KA.out.t1
    have g0 : ((v3.alloc (.cells #[.slice q3.ca n3.coils.length q3.cc, .slice q3.ia n3.inputs.length q3.ic, .slice q3.ha n3.holding.length q3.hc, .slice q3.wa n3.words.length q3.wc] 28)).alloc (.cells #[b8 r3.fn, b8 r3.ex, .slice b3 r3.bits.length e3, .slice a3 r3.words.length c3, b16 r3.at_, b16 r3.many] 36)).cell? ⟨W1.heap.size + 1, 0, none⟩ = some (.slice (some ⟨W1.heap.size, 0, none⟩) 10 10) := cell_of_row _ _ _ _ _ _ KA.out.t2
    have g1 : ((v3.alloc (.cells #[.slice q3.ca n3.coils.length q3.cc, .slice q3.ia n3.inputs.length q3.ic, .slice q3.ha n3.holding.length q3.hc, .slice q3.wa n3.words.length q3.wc] 28)).alloc (.cells #[b8 r3.fn, b8 r3.ex, .slice b3 r3.bits.length e3, .slice a3 r3.words.length c3, b16 r3.at_, b16 r3.many] 36)).cell? ⟨W1.heap.size + 1, 1, none⟩ = some (.slice none 0 0) := cell_of_row _ _ _ _ _ _ KA.out.t2
    have g2 : ((v3.alloc (.cells #[.slice q3.ca n3.coils.length q3.cc, .slice q3.ia n3.inputs.length q3.ic, .slice q3.ha n3.holding.length q3.hc, .slice q3.wa n3.words.length q3.wc] 28)).alloc (.cells #[b8 r3.fn, b8 r3.ex, .slice b3 r3.bits.length e3, .slice a3 r3.words.length c3, b16 r3.at_, b16 r3.many] 36)).cell? ⟨W1.heap.size + 1, 2, none⟩ = some (.slice (some ⟨W1.heap.size + 1 + 1, 0, none⟩) 8 8) := cell_of_row _ _ _ _ _ _ KA.out.t2
    have g3 : ((v3.alloc (.cells #[.slice q3.ca n3.coils.length q3.cc, .slice q3.ia n3.inputs.length q3.ic, .slice q3.ha n3.holding.length q3.hc, .slice q3.wa n3.words.length q3.wc] 28)).alloc (.cells #[b8 r3.fn, b8 r3.ex, .slice b3 r3.bits.length e3, .slice a3 r3.words.length c3, b16 r3.at_, b16 r3.many] 36)).cell? ⟨W1.heap.size + 1, 3, none⟩ = some (.slice none 0 0) := cell_of_row _ _ _ _ _ _ KA.out.t2
    have KV := Lib.hid (And.intro KA.out KH.out)
    have HDO := Lib.hid (Do_at sX (pX w.heap.size) mX ⟨some ⟨W1.heap.size, 0, none⟩, 10, none, 0, some ⟨W1.heap.size + 1 + 1, 0, none⟩, 8, none, 0⟩ ⟨1, 0, 10, 0, [], []⟩ none 0 none 0 ((v3.alloc (.cells #[.slice q3.ca n3.coils.length q3.cc, .slice q3.ia n3.inputs.length q3.ic, .slice q3.ha n3.holding.length q3.hc, .slice q3.wa n3.words.length q3.wc] 28)).alloc (.cells #[b8 r3.fn, b8 r3.ex, .slice b3 r3.bits.length e3, .slice a3 r3.words.length c3, b16 r3.at_, b16 r3.many] 36)) KV.out.1.sp KV.out.1.me mX_small ⟨Sl.none_, Sl.none_⟩ (by decide) (by decide))
    have HMV := HM1
    clear HM1
    rw [hd4] at HDO
    clear hd4 hf4 KA KH
    go_wp2_with fail
    generalize ((v3.alloc (.cells #[.slice q3.ca n3.coils.length q3.cc, .slice q3.ia n3.inputs.length q3.ic, .slice q3.ha n3.holding.length q3.hc, .slice q3.wa n3.words.length q3.wc] 28)).alloc (.cells #[b8 r3.fn, b8 r3.ex, .slice b3 r3.bits.length e3, .slice a3 r3.words.length c3, b16 r3.at_, b16 r3.many] 36)) = Z4 at *
    refine HDO.out.mono ?_
    rintro e v4 ⟨q4, a4, c4, b4, e4, rfl, hme4, hrp4, hb⟩
    have KV2 := Lib.hid (And.intro (KV.out.1.on hb) (KV.out.2.on hb))
    have HM2 := Lib.hid (And.intro (HMV.out.1.on hb) (HMV.out.2.below hb))
    clear HMV
    clear KV HDO hb s0 s1 s2 s3 g0 g1 g2 g3
    have hx1 : Below v4.heap.size v4 ((v4.alloc (.cells #[.slice q4.ca n4.coils.length q4.cc, .slice q4.ia n4.inputs.length q4.ic, .slice q4.ha n4.holding.length q4.hc, .slice q4.wa n4.words.length q4.wc] 28)).alloc (.cells #[b8 r4.fn, b8 r4.ex, .slice b4 r4.bits.length e4, .slice a4 r4.words.length c4, b16 r4.at_, b16 r4.many] 36)) := below_two v4 _ _
    have hx2 : ((v4.alloc (.cells #[.slice q4.ca n4.coils.length q4.cc, .slice q4.ia n4.inputs.length q4.ic, .slice q4.ha n4.holding.length q4.hc, .slice q4.wa n4.words.length q4.wc] 28)).alloc (.cells #[b8 r4.fn, b8 r4.ex, .slice b4 r4.bits.length e4, .slice a4 r4.words.length c4, b16 r4.at_, b16 r4.many] 36)).heap[v4.heap.size]? = some (.cells #[.slice q4.ca n4.coils.length q4.cc, .slice q4.ia n4.inputs.length q4.ic, .slice q4.ha n4.holding.length q4.hc, .slice q4.wa n4.words.length q4.wc] 28 (0, 0)) := (Below.heap_alloc _ _ _ (by simp)).trans (heap_alloc_new v4 _)
    have hx3 := at_one v4 (.cells #[.slice q4.ca n4.coils.length q4.cc, .slice q4.ia n4.inputs.length q4.ic, .slice q4.ha n4.holding.length q4.hc, .slice q4.wa n4.words.length q4.wc] 28) (.cells #[b8 r4.fn, b8 r4.ex, .slice b4 r4.bits.length e4, .slice a4 r4.words.length c4, b16 r4.at_, b16 r4.many] 36)
    have KA := Lib.hid (KV2.out.1.on hx1)
    have KH := Lib.hid (((KV2.out.2.on hx1).cons hx2).cons hx3)
    have HM1 : Hid (MeAt ((v4.alloc (.cells #[.slice q4.ca n4.coils.length q4.cc, .slice q4.ia n4.inputs.length q4.ic, .slice q4.ha n4.holding.length q4.hc, .slice q4.wa n4.words.length q4.wc] 28)).alloc (.cells #[b8 r4.fn, b8 r4.ex, .slice b4 r4.bits.length e4, .slice a4 r4.words.length c4, b16 r4.at_, b16 r4.many] 36)) ((v4.alloc (.cells #[.slice q4.ca n4.coils.length q4.cc, .slice q4.ia n4.inputs.length q4.ic, .slice q4.ha n4.holding.length q4.hc, .slice q4.wa n4.words.length q4.wc] 28)).alloc (.cells #[b8 r4.fn, b8 r4.ex, .slice b4 r4.bits.length e4, .slice a4 r4.words.length c4, b16 r4.at_, b16 r4.many] 36)).heap.size n1 q1 ∧ RepAt ((v4.alloc (.cells #[.slice q4.ca n4.coils.length q4.cc, .slice q4.ia n4.inputs.length q4.ic, .slice q4.ha n4.holding.length q4.hc, .slice q4.wa n4.words.length q4.wc] 28)).alloc (.cells #[b8 r4.fn, b8 r4.ex, .slice b4 r4.bits.length e4, .slice a4 r4.words.length c4, b16 r4.at_, b16 r4.many] 36)) ((v4.alloc (.cells #[.slice q4.ca n4.coils.length q4.cc, .slice q4.ia n4.inputs.length q4.ic, .slice q4.ha n4.holding.length q4.hc, .slice q4.wa n4.words.length q4.wc] 28)).alloc (.cells #[b8 r4.fn, b8 r4.ex, .slice b4 r4.bits.length e4, .slice a4 r4.words.length c4, b16 r4.at_, b16 r4.many] 36)).heap.size r1 a1 c1 b1 e1) := Lib.hid ⟨HM2.out.1.on hx1, HM2.out.2.below hx1⟩
    clear HM2
    clear hme4 hrp4 hx1 hx2 hx3 KV2
    have s0 : ((v4.alloc (.cells #[.slice q4.ca n4.coils.length q4.cc, .slice q4.ia n4.inputs.length q4.ic, .slice q4.ha n4.holding.length q4.hc, .slice q4.wa n4.words.length q4.wc] 28)).alloc (.cells #[b8 r4.fn, b8 r4.ex, .slice b4 r4.bits.length e4, .slice a4 r4.words.length c4, b16 r4.at_, b16 r4.many] 36)).cell? ⟨w.heap.size + 1 + 1, 0, none⟩ = some (.slice (some ⟨w.heap.size, 0, none⟩) 1 1) := cell_of_row _ _ _ _ _ _ KA.out.t1
    have s1 : ((v4.alloc (.cells #[.slice q4.ca n4.coils.length q4.cc, .slice q4.ia n4.inputs.length q4.ic, .slice q4.ha n4.holding.length q4.hc, .slice q4.wa n4.words.length q4.wc] 28)).alloc (.cells #[b8 r4.fn, b8 r4.ex, .slice b4 r4.bits.length e4, .slice a4 r4.words.length c4, b16 r4.at_, b16 r4.many] 36)).cell? ⟨w.heap.size + 1 + 1, 1, none⟩ = some (.slice none 0 0) := cell_of_row _ _ _ _ _ _ KA.out.t1
    have s2 : ((v4.alloc (.cells #[.slice q4.ca n4.coils.length q4.cc, .slice q4.ia n4.inputs.length q4.ic, .slice q4.ha n4.holding.length q4.hc, .slice q4.wa n4.words.length q4.wc] 28)).alloc (.cells #[b8 r4.fn, b8 r4.ex, .slice b4 r4.bits.length e4, .slice a4 r4.words.length c4, b16 r4.at_, b16 r4.many] 36)).cell? ⟨w.heap.size + 1 + 1, 2, none⟩ = some (.slice (some ⟨w.heap.size + 1, 0, none⟩) 2 2) := cell_of_row _ _ _ _ _ _ KA.out.t1
    have s3 : ((v4.alloc (.cells #[.slice q4.ca n4.coils.length q4.cc, .slice q4.ia n4.inputs.length q4.ic, .slice q4.ha n4.holding.length q4.hc, .slice q4.wa n4.words.length q4.wc] 28)).alloc (.cells #[b8 r4.fn, b8 r4.ex, .slice b4 r4.bits.length e4, .slice a4 r4.words.length c4, b16 r4.at_, b16 r4.many] 36)).cell? ⟨w.heap.size + 1 + 1, 3, none⟩ = some (.slice none 0 0) := cell_of_row _ _ _ _ _ _ KA.out.t1
    have g0 : ((v4.alloc (.cells #[.slice q4.ca n4.coils.length q4.cc, .slice q4.ia n4.inputs.length q4.ic, .slice q4.ha n4.holding.length q4.hc, .slice q4.wa n4.words.length q4.wc] 28)).alloc (.cells #[b8 r4.fn, b8 r4.ex, .slice b4 r4.bits.length e4, .slice a4 r4.words.length c4, b16 r4.at_, b16 r4.many] 36)).cell? ⟨W1.heap.size + 1, 0, none⟩ = some (.slice (some ⟨W1.heap.size, 0, none⟩) 10 10) := cell_of_row _ _ _ _ _ _ KA.out.t2
    have g1 : ((v4.alloc (.cells #[.slice q4.ca n4.coils.length q4.cc, .slice q4.ia n4.inputs.length q4.ic, .slice q4.ha n4.holding.length q4.hc, .slice q4.wa n4.words.length q4.wc] 28)).alloc (.cells #[b8 r4.fn, b8 r4.ex, .slice b4 r4.bits.length e4, .slice a4 r4.words.length c4, b16 r4.at_, b16 r4.many] 36)).cell? ⟨W1.heap.size + 1, 1, none⟩ = some (.slice none 0 0) := cell_of_row _ _ _ _ _ _ KA.out.t2
    have g2 : ((v4.alloc (.cells #[.slice q4.ca n4.coils.length q4.cc, .slice q4.ia n4.inputs.length q4.ic, .slice q4.ha n4.holding.length q4.hc, .slice q4.wa n4.words.length q4.wc] 28)).alloc (.cells #[b8 r4.fn, b8 r4.ex, .slice b4 r4.bits.length e4, .slice a4 r4.words.length c4, b16 r4.at_, b16 r4.many] 36)).cell? ⟨W1.heap.size + 1, 2, none⟩ = some (.slice (some ⟨W1.heap.size + 1 + 1, 0, none⟩) 8 8) := cell_of_row _ _ _ _ _ _ KA.out.t2
    have g3 : ((v4.alloc (.cells #[.slice q4.ca n4.coils.length q4.cc, .slice q4.ia n4.inputs.length q4.ic, .slice q4.ha n4.holding.length q4.hc, .slice q4.wa n4.words.length q4.wc] 28)).alloc (.cells #[b8 r4.fn, b8 r4.ex, .slice b4 r4.bits.length e4, .slice a4 r4.words.length c4, b16 r4.at_, b16 r4.many] 36)).cell? ⟨W1.heap.size + 1, 3, none⟩ = some (.slice none 0 0) := cell_of_row _ _ _ _ _ _ KA.out.t2
    have HRI := Lib.hid (MRight_any sX mX (pX w.heap.size) ⟨some ⟨W1.heap.size, 0, none⟩, 10, none, 0, some ⟨W1.heap.size + 1 + 1, 0, none⟩, 8, none, 0⟩ ((v4.alloc (.cells #[.slice q4.ca n4.coils.length q4.cc, .slice q4.ia n4.inputs.length q4.ic, .slice q4.ha n4.holding.length q4.hc, .slice q4.wa n4.words.length q4.wc] 28)).alloc (.cells #[b8 r4.fn, b8 r4.ex, .slice b4 r4.bits.length e4, .slice a4 r4.words.length c4, b16 r4.at_, b16 r4.many] 36)) KA.out.sp KA.out.me mX_small)
    rw [mex5] at HRI
    go_wp2_with fail
    generalize ((v4.alloc (.cells #[.slice q4.ca n4.coils.length q4.cc, .slice q4.ia n4.inputs.length q4.ic, .slice q4.ha n4.holding.length q4.hc, .slice q4.wa n4.words.length q4.wc] 28)).alloc (.cells #[b8 r4.fn, b8 r4.ex, .slice b4 r4.bits.length e4, .slice a4 r4.words.length c4, b16 r4.at_, b16 r4.many] 36)) = Z5 at *
    refine HRI.out.mono ?_
    rintro e z1 ⟨rfl, hb⟩
    have KZ := Lib.hid (And.intro (KA.out.below.trans (hb.mono KA.out.below.size)) (And.intro (KH.out.on hb) (And.intro (HM1.out.1.on hb) (HM1.out.2.below hb))))
    clear hb KA KH HM1 HRI s0 s1 s2 s3 g0 g1 g2 g3
    obtain ⟨hl, hi, hr⟩ := HF1.out
    subst hr
    obtain ⟨xb7, xo7, x7, hq7, -, hx7, hc7⟩ := KZ.out.2.2.1.holding.at_ (k := 7) (by omega)
    have h7 : x7 = 4 := by rw [hi] at hx7; injection hx7 with hx7; exact hx7.symm
    subst h7
    have u2 : z1.cell? ⟨v1.heap.size, 2, none⟩ = some (.slice q1.ha n1.holding.length q1.hc) := cell_of_row _ _ _ _ _ _ (KZ.out.2.1 (v1.heap.size, #[.slice q1.ca n1.coils.length q1.cc, .slice q1.ia n1.inputs.length q1.ic, .slice q1.ha n1.holding.length q1.hc, .slice q1.wa n1.words.length q1.wc], 28) (by simp))
    have y0 : z1.cell? ⟨v1.heap.size + 1, 0, none⟩ = some (b8 16) := cell_of_row _ _ _ _ _ _ (KZ.out.2.1 (v1.heap.size + 1, #[b8 16, b8 0, .slice b1 0 e1, .slice a1 0 c1, b16 4, b16 4], 36) (by simp))
    have y1 : z1.cell? ⟨v1.heap.size + 1, 1, none⟩ = some (b8 0) := cell_of_row _ _ _ _ _ _ (KZ.out.2.1 (v1.heap.size + 1, #[b8 16, b8 0, .slice b1 0 e1, .slice a1 0 c1, b16 4, b16 4], 36) (by simp))
    have y2 : z1.cell? ⟨v1.heap.size + 1, 2, none⟩ = some (.slice b1 0 e1) := cell_of_row _ _ _ _ _ _ (KZ.out.2.1 (v1.heap.size + 1, #[b8 16, b8 0, .slice b1 0 e1, .slice a1 0 c1, b16 4, b16 4], 36) (by simp))
    have y3 : z1.cell? ⟨v1.heap.size + 1, 3, none⟩ = some (.slice a1 0 c1) := cell_of_row _ _ _ _ _ _ (KZ.out.2.1 (v1.heap.size + 1, #[b8 16, b8 0, .slice b1 0 e1, .slice a1 0 c1, b16 4, b16 4], 36) (by simp))
    have y4 : z1.cell? ⟨v1.heap.size + 1, 4, none⟩ = some (b16 4) := cell_of_row _ _ _ _ _ _ (KZ.out.2.1 (v1.heap.size + 1, #[b8 16, b8 0, .slice b1 0 e1, .slice a1 0 c1, b16 4, b16 4], 36) (by simp))
    have y5 : z1.cell? ⟨v1.heap.size + 1, 5, none⟩ = some (b16 4) := cell_of_row _ _ _ _ _ _ (KZ.out.2.1 (v1.heap.size + 1, #[b8 16, b8 0, .slice b1 0 e1, .slice a1 0 c1, b16 4, b16 4], 36) (by simp))
    rw [hq7, hl] at u2
    have hcm := len_le KZ.out.2.2.1.holding
    have HSM := Lib.hid (RSame_any ⟨16, 0, [], [], 4, 4⟩ ⟨16, 0, [], [], 4, 4⟩ a1 c1 b1 e1 none 0 none 0 z1 KZ.out.2.2.2 (RepAt.nil rfl rfl))
    rw [decide_eq_true rfl] at HSM
    clear hl hi hx7
    go_wp2_with fail
    refine HSM.out.mono ?_
    rintro e z2 ⟨rfl, hb⟩
    have KZ2 := Lib.hid (And.intro (KZ.out.1.trans (hb.mono KZ.out.1.size)) (KZ.out.2.1.on hb))
    clear hb KZ HSM u2 y0 y1 y2 y3 y4 y5 hc7
    have p2 : z2.cell? ⟨v2.heap.size + 1, 1, none⟩ = some (b8 r2.ex) := cell_of_row _ _ _ _ _ _ (KZ2.out.2 (v2.heap.size + 1, #[b8 r2.fn, b8 r2.ex, .slice b2 r2.bits.length e2, .slice a2 r2.words.length c2, b16 r2.at_, b16 r2.many], 36) (by simp))
    rw [HF2.out] at p2
    have p3 : z2.cell? ⟨v3.heap.size + 1, 1, none⟩ = some (b8 r3.ex) := cell_of_row _ _ _ _ _ _ (KZ2.out.2 (v3.heap.size + 1, #[b8 r3.fn, b8 r3.ex, .slice b3 r3.bits.length e3, .slice a3 r3.words.length c3, b16 r3.at_, b16 r3.many], 36) (by simp))
    rw [HF3.out] at p3
    have p4 : z2.cell? ⟨v4.heap.size + 1, 2, none⟩ = some (.slice b4 r4.bits.length e4) := cell_of_row _ _ _ _ _ _ (KZ2.out.2 (v4.heap.size + 1, #[b8 r4.fn, b8 r4.ex, .slice b4 r4.bits.length e4, .slice a4 r4.words.length c4, b16 r4.at_, b16 r4.many], 36) (by simp))
    rw [HF4.out] at p4
    go_wp2_with fail
    go_ret
    exact Says.mk KZ2.out.1
  · have HQ := Lib.hid (HMK.out (((W1.alloc (.cells #[.int .u16 0, .int .u16 0, .int .u16 0, .int .u16 0, .int .u16 0, .int .u16 0, .int .u16 0, .int .u16 0] 29)).alloc (.cells #[.bool false, .bool false, .bool false, .bool false, .bool false, .bool false, .bool false, .bool false, .bool false, .bool false] 4)).alloc (.cells #[.slice (some ⟨W1.heap.size + 1, 0, none⟩) 10 10, .slice none 0 0, .slice (some ⟨W1.heap.size, 0, none⟩) 8 8, .slice none 0 0] 28)).drew (three_rows W1 _ _ _).1 (W1.heap.size + 1) (W1.heap.size) (W1.heap.size + 1 + 1) ((three_rows W1 (.cells #[.int .u16 0, .int .u16 0, .int .u16 0, .int .u16 0, .int .u16 0, .int .u16 0, .int .u16 0, .int .u16 0] 29) (.cells #[.bool false, .bool false, .bool false, .bool false, .bool false, .bool false, .bool false, .bool false, .bool false, .bool false] 4) (.cells #[.slice (some ⟨W1.heap.size + 1, 0, none⟩) 10 10, .slice none 0 0, .slice (some ⟨W1.heap.size, 0, none⟩) 8 8, .slice none 0 0] 28)).2.2.1) ((three_rows W1 (.cells #[.int .u16 0, .int .u16 0, .int .u16 0, .int .u16 0, .int .u16 0, .int .u16 0, .int .u16 0, .int .u16 0] 29) (.cells #[.bool false, .bool false, .bool false, .bool false, .bool false, .bool false, .bool false, .bool false, .bool false, .bool false] 4) (.cells #[.slice (some ⟨W1.heap.size + 1, 0, none⟩) 10 10, .slice none 0 0, .slice (some ⟨W1.heap.size, 0, none⟩) 8 8, .slice none 0 0] 28)).2.1) ((three_rows W1 (.cells #[.int .u16 0, .int .u16 0, .int .u16 0, .int .u16 0, .int .u16 0, .int .u16 0, .int .u16 0, .int .u16 0] 29) (.cells #[.bool false, .bool false, .bool false, .bool false, .bool false, .bool false, .bool false, .bool false, .bool false, .bool false] 4) (.cells #[.slice (some ⟨W1.heap.size + 1, 0, none⟩) 10 10, .slice none 0 0, .slice (some ⟨W1.heap.size, 0, none⟩) 8 8, .slice none 0 0] 28)).2.2.2))
    clear hmB hmW
    generalize (((W1.alloc (.cells #[.int .u16 0, .int .u16 0, .int .u16 0, .int .u16 0, .int .u16 0, .int .u16 0, .int .u16 0, .int .u16 0] 29)).alloc (.cells #[.bool false, .bool false, .bool false, .bool false, .bool false, .bool false, .bool false, .bool false, .bool false, .bool false] 4)).alloc (.cells #[.slice (some ⟨W1.heap.size + 1, 0, none⟩) 10 10, .slice none 0 0, .slice (some ⟨W1.heap.size, 0, none⟩) 8 8, .slice none 0 0] 28)).drew = WE at *
    have KA := HQ
    have KH : Hid (Has WE []) := Lib.hid fun x hx => by cases hx
    clear HQ HMK
    obtain ⟨n1, r1, hd1, hf1⟩ : ∃ n r, doN sX mX ⟨16, 4, 4, 0, [1, 2, 3, 4], []⟩ = (n, r) ∧ (n.holding.length = 8 ∧ n.holding[7]? = some 4 ∧ r = ⟨16, 0, [], [], 4, 4⟩) := ⟨_, _, rfl, mex1⟩
    have HF1 := Lib.hid hf1
    have s0 : WE.cell? ⟨w.heap.size + 1 + 1, 0, none⟩ = some (.slice (some ⟨w.heap.size, 0, none⟩) 1 1) := cell_of_row _ _ _ _ _ _ KA.out.t1
    have s1 : WE.cell? ⟨w.heap.size + 1 + 1, 1, none⟩ = some (.slice none 0 0) := cell_of_row _ _ _ _ _ _ KA.out.t1
    have s2 : WE.cell? ⟨w.heap.size + 1 + 1, 2, none⟩ = some (.slice (some ⟨w.heap.size + 1, 0, none⟩) 2 2) := cell_of_row _ _ _ _ _ _ KA.out.t1
    have s3 : WE.cell? ⟨w.heap.size + 1 + 1, 3, none⟩ = some (.slice none 0 0) := cell_of_row _ _ _ _ _ _ KA.out.t1
    have g0 : WE.cell? ⟨W1.heap.size + 1 + 1, 0, none⟩ = some (.slice (some ⟨W1.heap.size + 1, 0, none⟩) 10 10) := cell_of_row _ _ _ _ _ _ KA.out.t2
    have g1 : WE.cell? ⟨W1.heap.size + 1 + 1, 1, none⟩ = some (.slice none 0 0) := cell_of_row _ _ _ _ _ _ KA.out.t2
    have g2 : WE.cell? ⟨W1.heap.size + 1 + 1, 2, none⟩ = some (.slice (some ⟨W1.heap.size, 0, none⟩) 8 8) := cell_of_row _ _ _ _ _ _ KA.out.t2
    have g3 : WE.cell? ⟨W1.heap.size + 1 + 1, 3, none⟩ = some (.slice none 0 0) := cell_of_row _ _ _ _ _ _ KA.out.t2
    have hV := below_al WE (.cells #[.int .u16 1, .int .u16 2, .int .u16 3, .int .u16 4] 29)
    have KV := Lib.hid (And.intro (KA.out.on hV) (KH.out.on hV))
    have hA : (WE.alloc (.cells #[.int .u16 1, .int .u16 2, .int .u16 3, .int .u16 4] 29)).heap[WE.heap.size]? = some (.cells #[.int .u16 1, .int .u16 2, .int .u16 3, .int .u16 4] 29 (0, 0)) := heap_alloc_new WE _
    have HDO := Lib.hid (Do_at sX (pX w.heap.size) mX ⟨some ⟨W1.heap.size + 1, 0, none⟩, 10, none, 0, some ⟨W1.heap.size, 0, none⟩, 8, none, 0⟩ ⟨16, 4, 4, 0, [1, 2, 3, 4], []⟩ (some ⟨WE.heap.size, 0, none⟩) 4 none 0 (WE.alloc (.cells #[.int .u16 1, .int .u16 2, .int .u16 3, .int .u16 4] 29)) KV.out.1.sp KV.out.1.me mX_small ⟨row_sl hA _ 4 rfl rfl (by omega), Sl.none_⟩ (by decide) (by decide))
    clear hA
    clear hV
    rw [hd1] at HDO
    clear hd1 hf1 KA KH
    go_wp2_with fail
    refine HDO.out.mono ?_
    rintro e v1 ⟨q1, a1, c1, b1, e1, rfl, hme1, hrp1, hb⟩
    have KV2 := Lib.hid (And.intro (KV.out.1.on hb) (KV.out.2.on hb))
    clear KV HDO hb s0 s1 s2 s3 g0 g1 g2 g3
    have hx1 : Below v1.heap.size v1 ((v1.alloc (.cells #[.slice q1.ca n1.coils.length q1.cc, .slice q1.ia n1.inputs.length q1.ic, .slice q1.ha n1.holding.length q1.hc, .slice q1.wa n1.words.length q1.wc] 28)).alloc (.cells #[b8 r1.fn, b8 r1.ex, .slice b1 r1.bits.length e1, .slice a1 r1.words.length c1, b16 r1.at_, b16 r1.many] 36)) := below_two v1 _ _
    have hx2 : ((v1.alloc (.cells #[.slice q1.ca n1.coils.length q1.cc, .slice q1.ia n1.inputs.length q1.ic, .slice q1.ha n1.holding.length q1.hc, .slice q1.wa n1.words.length q1.wc] 28)).alloc (.cells #[b8 r1.fn, b8 r1.ex, .slice b1 r1.bits.length e1, .slice a1 r1.words.length c1, b16 r1.at_, b16 r1.many] 36)).heap[v1.heap.size]? = some (.cells #[.slice q1.ca n1.coils.length q1.cc, .slice q1.ia n1.inputs.length q1.ic, .slice q1.ha n1.holding.length q1.hc, .slice q1.wa n1.words.length q1.wc] 28 (0, 0)) := (Below.heap_alloc _ _ _ (by simp)).trans (heap_alloc_new v1 _)
    have hx3 := at_one v1 (.cells #[.slice q1.ca n1.coils.length q1.cc, .slice q1.ia n1.inputs.length q1.ic, .slice q1.ha n1.holding.length q1.hc, .slice q1.wa n1.words.length q1.wc] 28) (.cells #[b8 r1.fn, b8 r1.ex, .slice b1 r1.bits.length e1, .slice a1 r1.words.length c1, b16 r1.at_, b16 r1.many] 36)
    have KA := Lib.hid (KV2.out.1.on hx1)
    have KH := Lib.hid (((KV2.out.2.on hx1).cons hx2).cons hx3)
    have HM1 : Hid (MeAt ((v1.alloc (.cells #[.slice q1.ca n1.coils.length q1.cc, .slice q1.ia n1.inputs.length q1.ic, .slice q1.ha n1.holding.length q1.hc, .slice q1.wa n1.words.length q1.wc] 28)).alloc (.cells #[b8 r1.fn, b8 r1.ex, .slice b1 r1.bits.length e1, .slice a1 r1.words.length c1, b16 r1.at_, b16 r1.many] 36)) ((v1.alloc (.cells #[.slice q1.ca n1.coils.length q1.cc, .slice q1.ia n1.inputs.length q1.ic, .slice q1.ha n1.holding.length q1.hc, .slice q1.wa n1.words.length q1.wc] 28)).alloc (.cells #[b8 r1.fn, b8 r1.ex, .slice b1 r1.bits.length e1, .slice a1 r1.words.length c1, b16 r1.at_, b16 r1.many] 36)).heap.size n1 q1 ∧ RepAt ((v1.alloc (.cells #[.slice q1.ca n1.coils.length q1.cc, .slice q1.ia n1.inputs.length q1.ic, .slice q1.ha n1.holding.length q1.hc, .slice q1.wa n1.words.length q1.wc] 28)).alloc (.cells #[b8 r1.fn, b8 r1.ex, .slice b1 r1.bits.length e1, .slice a1 r1.words.length c1, b16 r1.at_, b16 r1.many] 36)) ((v1.alloc (.cells #[.slice q1.ca n1.coils.length q1.cc, .slice q1.ia n1.inputs.length q1.ic, .slice q1.ha n1.holding.length q1.hc, .slice q1.wa n1.words.length q1.wc] 28)).alloc (.cells #[b8 r1.fn, b8 r1.ex, .slice b1 r1.bits.length e1, .slice a1 r1.words.length c1, b16 r1.at_, b16 r1.many] 36)).heap.size r1 a1 c1 b1 e1) := Lib.hid ⟨hme1.on hx1, hrp1.below hx1⟩
    clear hme1 hrp1 hx1 hx2 hx3 KV2
    obtain ⟨n2, r2, hd2, hf2⟩ : ∃ n r, doN sX mX ⟨16, 4, 2, 0, [1, 2], []⟩ = (n, r) ∧ (r.ex = 2) := ⟨_, _, rfl, mex2⟩
    have HF2 := Lib.hid hf2
    have s0 : ((v1.alloc (.cells #[.slice q1.ca n1.coils.length q1.cc, .slice q1.ia n1.inputs.length q1.ic, .slice q1.ha n1.holding.length q1.hc, .slice q1.wa n1.words.length q1.wc] 28)).alloc (.cells #[b8 r1.fn, b8 r1.ex, .slice b1 r1.bits.length e1, .slice a1 r1.words.length c1, b16 r1.at_, b16 r1.many] 36)).cell? ⟨w.heap.size + 1 + 1, 0, none⟩ = some (.slice (some ⟨w.heap.size, 0, none⟩) 1 1) := cell_of_row _ _ _ _ _ _ KA.out.t1
    have s1 : ((v1.alloc (.cells #[.slice q1.ca n1.coils.length q1.cc, .slice q1.ia n1.inputs.length q1.ic, .slice q1.ha n1.holding.length q1.hc, .slice q1.wa n1.words.length q1.wc] 28)).alloc (.cells #[b8 r1.fn, b8 r1.ex, .slice b1 r1.bits.length e1, .slice a1 r1.words.length c1, b16 r1.at_, b16 r1.many] 36)).cell? ⟨w.heap.size + 1 + 1, 1, none⟩ = some (.slice none 0 0) := cell_of_row _ _ _ _ _ _ KA.out.t1
    have s2 : ((v1.alloc (.cells #[.slice q1.ca n1.coils.length q1.cc, .slice q1.ia n1.inputs.length q1.ic, .slice q1.ha n1.holding.length q1.hc, .slice q1.wa n1.words.length q1.wc] 28)).alloc (.cells #[b8 r1.fn, b8 r1.ex, .slice b1 r1.bits.length e1, .slice a1 r1.words.length c1, b16 r1.at_, b16 r1.many] 36)).cell? ⟨w.heap.size + 1 + 1, 2, none⟩ = some (.slice (some ⟨w.heap.size + 1, 0, none⟩) 2 2) := cell_of_row _ _ _ _ _ _ KA.out.t1
    have s3 : ((v1.alloc (.cells #[.slice q1.ca n1.coils.length q1.cc, .slice q1.ia n1.inputs.length q1.ic, .slice q1.ha n1.holding.length q1.hc, .slice q1.wa n1.words.length q1.wc] 28)).alloc (.cells #[b8 r1.fn, b8 r1.ex, .slice b1 r1.bits.length e1, .slice a1 r1.words.length c1, b16 r1.at_, b16 r1.many] 36)).cell? ⟨w.heap.size + 1 + 1, 3, none⟩ = some (.slice none 0 0) := cell_of_row _ _ _ _ _ _ KA.out.t1
    have g0 : ((v1.alloc (.cells #[.slice q1.ca n1.coils.length q1.cc, .slice q1.ia n1.inputs.length q1.ic, .slice q1.ha n1.holding.length q1.hc, .slice q1.wa n1.words.length q1.wc] 28)).alloc (.cells #[b8 r1.fn, b8 r1.ex, .slice b1 r1.bits.length e1, .slice a1 r1.words.length c1, b16 r1.at_, b16 r1.many] 36)).cell? ⟨W1.heap.size + 1 + 1, 0, none⟩ = some (.slice (some ⟨W1.heap.size + 1, 0, none⟩) 10 10) := cell_of_row _ _ _ _ _ _ KA.out.t2
    have g1 : ((v1.alloc (.cells #[.slice q1.ca n1.coils.length q1.cc, .slice q1.ia n1.inputs.length q1.ic, .slice q1.ha n1.holding.length q1.hc, .slice q1.wa n1.words.length q1.wc] 28)).alloc (.cells #[b8 r1.fn, b8 r1.ex, .slice b1 r1.bits.length e1, .slice a1 r1.words.length c1, b16 r1.at_, b16 r1.many] 36)).cell? ⟨W1.heap.size + 1 + 1, 1, none⟩ = some (.slice none 0 0) := cell_of_row _ _ _ _ _ _ KA.out.t2
    have g2 : ((v1.alloc (.cells #[.slice q1.ca n1.coils.length q1.cc, .slice q1.ia n1.inputs.length q1.ic, .slice q1.ha n1.holding.length q1.hc, .slice q1.wa n1.words.length q1.wc] 28)).alloc (.cells #[b8 r1.fn, b8 r1.ex, .slice b1 r1.bits.length e1, .slice a1 r1.words.length c1, b16 r1.at_, b16 r1.many] 36)).cell? ⟨W1.heap.size + 1 + 1, 2, none⟩ = some (.slice (some ⟨W1.heap.size, 0, none⟩) 8 8) := cell_of_row _ _ _ _ _ _ KA.out.t2
    have g3 : ((v1.alloc (.cells #[.slice q1.ca n1.coils.length q1.cc, .slice q1.ia n1.inputs.length q1.ic, .slice q1.ha n1.holding.length q1.hc, .slice q1.wa n1.words.length q1.wc] 28)).alloc (.cells #[b8 r1.fn, b8 r1.ex, .slice b1 r1.bits.length e1, .slice a1 r1.words.length c1, b16 r1.at_, b16 r1.many] 36)).cell? ⟨W1.heap.size + 1 + 1, 3, none⟩ = some (.slice none 0 0) := cell_of_row _ _ _ _ _ _ KA.out.t2
    have hV := below_al ((v1.alloc (.cells #[.slice q1.ca n1.coils.length q1.cc, .slice q1.ia n1.inputs.length q1.ic, .slice q1.ha n1.holding.length q1.hc, .slice q1.wa n1.words.length q1.wc] 28)).alloc (.cells #[b8 r1.fn, b8 r1.ex, .slice b1 r1.bits.length e1, .slice a1 r1.words.length c1, b16 r1.at_, b16 r1.many] 36)) (.cells #[.int .u16 1, .int .u16 2] 29)
    have KV := Lib.hid (And.intro (KA.out.on hV) (KH.out.on hV))
    have hA : (((v1.alloc (.cells #[.slice q1.ca n1.coils.length q1.cc, .slice q1.ia n1.inputs.length q1.ic, .slice q1.ha n1.holding.length q1.hc, .slice q1.wa n1.words.length q1.wc] 28)).alloc (.cells #[b8 r1.fn, b8 r1.ex, .slice b1 r1.bits.length e1, .slice a1 r1.words.length c1, b16 r1.at_, b16 r1.many] 36)).alloc (.cells #[.int .u16 1, .int .u16 2] 29)).heap[v1.heap.size + 1 + 1]? = some (.cells #[.int .u16 1, .int .u16 2] 29 (0, 0)) := at_two v1 _ _ _
    have HDO := Lib.hid (Do_at sX (pX w.heap.size) mX ⟨some ⟨W1.heap.size + 1, 0, none⟩, 10, none, 0, some ⟨W1.heap.size, 0, none⟩, 8, none, 0⟩ ⟨16, 4, 2, 0, [1, 2], []⟩ (some ⟨v1.heap.size + 1 + 1, 0, none⟩) 2 none 0 (((v1.alloc (.cells #[.slice q1.ca n1.coils.length q1.cc, .slice q1.ia n1.inputs.length q1.ic, .slice q1.ha n1.holding.length q1.hc, .slice q1.wa n1.words.length q1.wc] 28)).alloc (.cells #[b8 r1.fn, b8 r1.ex, .slice b1 r1.bits.length e1, .slice a1 r1.words.length c1, b16 r1.at_, b16 r1.many] 36)).alloc (.cells #[.int .u16 1, .int .u16 2] 29)) KV.out.1.sp KV.out.1.me mX_small ⟨row_sl hA _ 2 rfl rfl (by omega), Sl.none_⟩ (by decide) (by decide))
    clear hA
    have HMV := Lib.hid (And.intro (HM1.out.1.on hV) (HM1.out.2.below hV))
    clear HM1
    clear hV
    rw [hd2] at HDO
    clear hd2 hf2 KA KH
    go_wp2_with fail
    generalize ((v1.alloc (.cells #[.slice q1.ca n1.coils.length q1.cc, .slice q1.ia n1.inputs.length q1.ic, .slice q1.ha n1.holding.length q1.hc, .slice q1.wa n1.words.length q1.wc] 28)).alloc (.cells #[b8 r1.fn, b8 r1.ex, .slice b1 r1.bits.length e1, .slice a1 r1.words.length c1, b16 r1.at_, b16 r1.many] 36)) = Z2 at *
    refine HDO.out.mono ?_
    rintro e v2 ⟨q2, a2, c2, b2, e2, rfl, hme2, hrp2, hb⟩
    have KV2 := Lib.hid (And.intro (KV.out.1.on hb) (KV.out.2.on hb))
    have HM2 := Lib.hid (And.intro (HMV.out.1.on hb) (HMV.out.2.below hb))
    clear HMV
    clear KV HDO hb s0 s1 s2 s3 g0 g1 g2 g3
    have hx1 : Below v2.heap.size v2 ((v2.alloc (.cells #[.slice q2.ca n2.coils.length q2.cc, .slice q2.ia n2.inputs.length q2.ic, .slice q2.ha n2.holding.length q2.hc, .slice q2.wa n2.words.length q2.wc] 28)).alloc (.cells #[b8 r2.fn, b8 r2.ex, .slice b2 r2.bits.length e2, .slice a2 r2.words.length c2, b16 r2.at_, b16 r2.many] 36)) := below_two v2 _ _
    have hx2 : ((v2.alloc (.cells #[.slice q2.ca n2.coils.length q2.cc, .slice q2.ia n2.inputs.length q2.ic, .slice q2.ha n2.holding.length q2.hc, .slice q2.wa n2.words.length q2.wc] 28)).alloc (.cells #[b8 r2.fn, b8 r2.ex, .slice b2 r2.bits.length e2, .slice a2 r2.words.length c2, b16 r2.at_, b16 r2.many] 36)).heap[v2.heap.size]? = some (.cells #[.slice q2.ca n2.coils.length q2.cc, .slice q2.ia n2.inputs.length q2.ic, .slice q2.ha n2.holding.length q2.hc, .slice q2.wa n2.words.length q2.wc] 28 (0, 0)) := (Below.heap_alloc _ _ _ (by simp)).trans (heap_alloc_new v2 _)
    have hx3 := at_one v2 (.cells #[.slice q2.ca n2.coils.length q2.cc, .slice q2.ia n2.inputs.length q2.ic, .slice q2.ha n2.holding.length q2.hc, .slice q2.wa n2.words.length q2.wc] 28) (.cells #[b8 r2.fn, b8 r2.ex, .slice b2 r2.bits.length e2, .slice a2 r2.words.length c2, b16 r2.at_, b16 r2.many] 36)
    have KA := Lib.hid (KV2.out.1.on hx1)
    have KH := Lib.hid (((KV2.out.2.on hx1).cons hx2).cons hx3)
    have HM1 : Hid (MeAt ((v2.alloc (.cells #[.slice q2.ca n2.coils.length q2.cc, .slice q2.ia n2.inputs.length q2.ic, .slice q2.ha n2.holding.length q2.hc, .slice q2.wa n2.words.length q2.wc] 28)).alloc (.cells #[b8 r2.fn, b8 r2.ex, .slice b2 r2.bits.length e2, .slice a2 r2.words.length c2, b16 r2.at_, b16 r2.many] 36)) ((v2.alloc (.cells #[.slice q2.ca n2.coils.length q2.cc, .slice q2.ia n2.inputs.length q2.ic, .slice q2.ha n2.holding.length q2.hc, .slice q2.wa n2.words.length q2.wc] 28)).alloc (.cells #[b8 r2.fn, b8 r2.ex, .slice b2 r2.bits.length e2, .slice a2 r2.words.length c2, b16 r2.at_, b16 r2.many] 36)).heap.size n1 q1 ∧ RepAt ((v2.alloc (.cells #[.slice q2.ca n2.coils.length q2.cc, .slice q2.ia n2.inputs.length q2.ic, .slice q2.ha n2.holding.length q2.hc, .slice q2.wa n2.words.length q2.wc] 28)).alloc (.cells #[b8 r2.fn, b8 r2.ex, .slice b2 r2.bits.length e2, .slice a2 r2.words.length c2, b16 r2.at_, b16 r2.many] 36)) ((v2.alloc (.cells #[.slice q2.ca n2.coils.length q2.cc, .slice q2.ia n2.inputs.length q2.ic, .slice q2.ha n2.holding.length q2.hc, .slice q2.wa n2.words.length q2.wc] 28)).alloc (.cells #[b8 r2.fn, b8 r2.ex, .slice b2 r2.bits.length e2, .slice a2 r2.words.length c2, b16 r2.at_, b16 r2.many] 36)).heap.size r1 a1 c1 b1 e1) := Lib.hid ⟨HM2.out.1.on hx1, HM2.out.2.below hx1⟩
    clear HM2
    clear hme2 hrp2 hx1 hx2 hx3 KV2
    obtain ⟨n3, r3, hd3, hf3⟩ : ∃ n r, doN sX mX ⟨3, 2, 4, 0, [], []⟩ = (n, r) ∧ (r.ex = 2) := ⟨_, _, rfl, mex3⟩
    have HF3 := Lib.hid hf3
    have s0 : ((v2.alloc (.cells #[.slice q2.ca n2.coils.length q2.cc, .slice q2.ia n2.inputs.length q2.ic, .slice q2.ha n2.holding.length q2.hc, .slice q2.wa n2.words.length q2.wc] 28)).alloc (.cells #[b8 r2.fn, b8 r2.ex, .slice b2 r2.bits.length e2, .slice a2 r2.words.length c2, b16 r2.at_, b16 r2.many] 36)).cell? ⟨w.heap.size + 1 + 1, 0, none⟩ = some (.slice (some ⟨w.heap.size, 0, none⟩) 1 1) := cell_of_row _ _ _ _ _ _ KA.out.t1
    have s1 : ((v2.alloc (.cells #[.slice q2.ca n2.coils.length q2.cc, .slice q2.ia n2.inputs.length q2.ic, .slice q2.ha n2.holding.length q2.hc, .slice q2.wa n2.words.length q2.wc] 28)).alloc (.cells #[b8 r2.fn, b8 r2.ex, .slice b2 r2.bits.length e2, .slice a2 r2.words.length c2, b16 r2.at_, b16 r2.many] 36)).cell? ⟨w.heap.size + 1 + 1, 1, none⟩ = some (.slice none 0 0) := cell_of_row _ _ _ _ _ _ KA.out.t1
    have s2 : ((v2.alloc (.cells #[.slice q2.ca n2.coils.length q2.cc, .slice q2.ia n2.inputs.length q2.ic, .slice q2.ha n2.holding.length q2.hc, .slice q2.wa n2.words.length q2.wc] 28)).alloc (.cells #[b8 r2.fn, b8 r2.ex, .slice b2 r2.bits.length e2, .slice a2 r2.words.length c2, b16 r2.at_, b16 r2.many] 36)).cell? ⟨w.heap.size + 1 + 1, 2, none⟩ = some (.slice (some ⟨w.heap.size + 1, 0, none⟩) 2 2) := cell_of_row _ _ _ _ _ _ KA.out.t1
    have s3 : ((v2.alloc (.cells #[.slice q2.ca n2.coils.length q2.cc, .slice q2.ia n2.inputs.length q2.ic, .slice q2.ha n2.holding.length q2.hc, .slice q2.wa n2.words.length q2.wc] 28)).alloc (.cells #[b8 r2.fn, b8 r2.ex, .slice b2 r2.bits.length e2, .slice a2 r2.words.length c2, b16 r2.at_, b16 r2.many] 36)).cell? ⟨w.heap.size + 1 + 1, 3, none⟩ = some (.slice none 0 0) := cell_of_row _ _ _ _ _ _ KA.out.t1
    have g0 : ((v2.alloc (.cells #[.slice q2.ca n2.coils.length q2.cc, .slice q2.ia n2.inputs.length q2.ic, .slice q2.ha n2.holding.length q2.hc, .slice q2.wa n2.words.length q2.wc] 28)).alloc (.cells #[b8 r2.fn, b8 r2.ex, .slice b2 r2.bits.length e2, .slice a2 r2.words.length c2, b16 r2.at_, b16 r2.many] 36)).cell? ⟨W1.heap.size + 1 + 1, 0, none⟩ = some (.slice (some ⟨W1.heap.size + 1, 0, none⟩) 10 10) := cell_of_row _ _ _ _ _ _ KA.out.t2
    have g1 : ((v2.alloc (.cells #[.slice q2.ca n2.coils.length q2.cc, .slice q2.ia n2.inputs.length q2.ic, .slice q2.ha n2.holding.length q2.hc, .slice q2.wa n2.words.length q2.wc] 28)).alloc (.cells #[b8 r2.fn, b8 r2.ex, .slice b2 r2.bits.length e2, .slice a2 r2.words.length c2, b16 r2.at_, b16 r2.many] 36)).cell? ⟨W1.heap.size + 1 + 1, 1, none⟩ = some (.slice none 0 0) := cell_of_row _ _ _ _ _ _ KA.out.t2
    have g2 : ((v2.alloc (.cells #[.slice q2.ca n2.coils.length q2.cc, .slice q2.ia n2.inputs.length q2.ic, .slice q2.ha n2.holding.length q2.hc, .slice q2.wa n2.words.length q2.wc] 28)).alloc (.cells #[b8 r2.fn, b8 r2.ex, .slice b2 r2.bits.length e2, .slice a2 r2.words.length c2, b16 r2.at_, b16 r2.many] 36)).cell? ⟨W1.heap.size + 1 + 1, 2, none⟩ = some (.slice (some ⟨W1.heap.size, 0, none⟩) 8 8) := cell_of_row _ _ _ _ _ _ KA.out.t2
    have g3 : ((v2.alloc (.cells #[.slice q2.ca n2.coils.length q2.cc, .slice q2.ia n2.inputs.length q2.ic, .slice q2.ha n2.holding.length q2.hc, .slice q2.wa n2.words.length q2.wc] 28)).alloc (.cells #[b8 r2.fn, b8 r2.ex, .slice b2 r2.bits.length e2, .slice a2 r2.words.length c2, b16 r2.at_, b16 r2.many] 36)).cell? ⟨W1.heap.size + 1 + 1, 3, none⟩ = some (.slice none 0 0) := cell_of_row _ _ _ _ _ _ KA.out.t2
    have KV := Lib.hid (And.intro KA.out KH.out)
    have HDO := Lib.hid (Do_at sX (pX w.heap.size) mX ⟨some ⟨W1.heap.size + 1, 0, none⟩, 10, none, 0, some ⟨W1.heap.size, 0, none⟩, 8, none, 0⟩ ⟨3, 2, 4, 0, [], []⟩ none 0 none 0 ((v2.alloc (.cells #[.slice q2.ca n2.coils.length q2.cc, .slice q2.ia n2.inputs.length q2.ic, .slice q2.ha n2.holding.length q2.hc, .slice q2.wa n2.words.length q2.wc] 28)).alloc (.cells #[b8 r2.fn, b8 r2.ex, .slice b2 r2.bits.length e2, .slice a2 r2.words.length c2, b16 r2.at_, b16 r2.many] 36)) KV.out.1.sp KV.out.1.me mX_small ⟨Sl.none_, Sl.none_⟩ (by decide) (by decide))
    have HMV := HM1
    clear HM1
    rw [hd3] at HDO
    clear hd3 hf3 KA KH
    go_wp2_with fail
    generalize ((v2.alloc (.cells #[.slice q2.ca n2.coils.length q2.cc, .slice q2.ia n2.inputs.length q2.ic, .slice q2.ha n2.holding.length q2.hc, .slice q2.wa n2.words.length q2.wc] 28)).alloc (.cells #[b8 r2.fn, b8 r2.ex, .slice b2 r2.bits.length e2, .slice a2 r2.words.length c2, b16 r2.at_, b16 r2.many] 36)) = Z3 at *
    refine HDO.out.mono ?_
    rintro e v3 ⟨q3, a3, c3, b3, e3, rfl, hme3, hrp3, hb⟩
    have KV2 := Lib.hid (And.intro (KV.out.1.on hb) (KV.out.2.on hb))
    have HM2 := Lib.hid (And.intro (HMV.out.1.on hb) (HMV.out.2.below hb))
    clear HMV
    clear KV HDO hb s0 s1 s2 s3 g0 g1 g2 g3
    have hx1 : Below v3.heap.size v3 ((v3.alloc (.cells #[.slice q3.ca n3.coils.length q3.cc, .slice q3.ia n3.inputs.length q3.ic, .slice q3.ha n3.holding.length q3.hc, .slice q3.wa n3.words.length q3.wc] 28)).alloc (.cells #[b8 r3.fn, b8 r3.ex, .slice b3 r3.bits.length e3, .slice a3 r3.words.length c3, b16 r3.at_, b16 r3.many] 36)) := below_two v3 _ _
    have hx2 : ((v3.alloc (.cells #[.slice q3.ca n3.coils.length q3.cc, .slice q3.ia n3.inputs.length q3.ic, .slice q3.ha n3.holding.length q3.hc, .slice q3.wa n3.words.length q3.wc] 28)).alloc (.cells #[b8 r3.fn, b8 r3.ex, .slice b3 r3.bits.length e3, .slice a3 r3.words.length c3, b16 r3.at_, b16 r3.many] 36)).heap[v3.heap.size]? = some (.cells #[.slice q3.ca n3.coils.length q3.cc, .slice q3.ia n3.inputs.length q3.ic, .slice q3.ha n3.holding.length q3.hc, .slice q3.wa n3.words.length q3.wc] 28 (0, 0)) := (Below.heap_alloc _ _ _ (by simp)).trans (heap_alloc_new v3 _)
    have hx3 := at_one v3 (.cells #[.slice q3.ca n3.coils.length q3.cc, .slice q3.ia n3.inputs.length q3.ic, .slice q3.ha n3.holding.length q3.hc, .slice q3.wa n3.words.length q3.wc] 28) (.cells #[b8 r3.fn, b8 r3.ex, .slice b3 r3.bits.length e3, .slice a3 r3.words.length c3, b16 r3.at_, b16 r3.many] 36)
    have KA := Lib.hid (KV2.out.1.on hx1)
    have KH := Lib.hid (((KV2.out.2.on hx1).cons hx2).cons hx3)
    have HM1 : Hid (MeAt ((v3.alloc (.cells #[.slice q3.ca n3.coils.length q3.cc, .slice q3.ia n3.inputs.length q3.ic, .slice q3.ha n3.holding.length q3.hc, .slice q3.wa n3.words.length q3.wc] 28)).alloc (.cells #[b8 r3.fn, b8 r3.ex, .slice b3 r3.bits.length e3, .slice a3 r3.words.length c3, b16 r3.at_, b16 r3.many] 36)) ((v3.alloc (.cells #[.slice q3.ca n3.coils.length q3.cc, .slice q3.ia n3.inputs.length q3.ic, .slice q3.ha n3.holding.length q3.hc, .slice q3.wa n3.words.length q3.wc] 28)).alloc (.cells #[b8 r3.fn, b8 r3.ex, .slice b3 r3.bits.length e3, .slice a3 r3.words.length c3, b16 r3.at_, b16 r3.many] 36)).heap.size n1 q1 ∧ RepAt ((v3.alloc (.cells #[.slice q3.ca n3.coils.length q3.cc, .slice q3.ia n3.inputs.length q3.ic, .slice q3.ha n3.holding.length q3.hc, .slice q3.wa n3.words.length q3.wc] 28)).alloc (.cells #[b8 r3.fn, b8 r3.ex, .slice b3 r3.bits.length e3, .slice a3 r3.words.length c3, b16 r3.at_, b16 r3.many] 36)) ((v3.alloc (.cells #[.slice q3.ca n3.coils.length q3.cc, .slice q3.ia n3.inputs.length q3.ic, .slice q3.ha n3.holding.length q3.hc, .slice q3.wa n3.words.length q3.wc] 28)).alloc (.cells #[b8 r3.fn, b8 r3.ex, .slice b3 r3.bits.length e3, .slice a3 r3.words.length c3, b16 r3.at_, b16 r3.many] 36)).heap.size r1 a1 c1 b1 e1) := Lib.hid ⟨HM2.out.1.on hx1, HM2.out.2.below hx1⟩
    clear HM2
    clear hme3 hrp3 hx1 hx2 hx3 KV2
    obtain ⟨n4, r4, hd4, hf4⟩ : ∃ n r, doN sX mX ⟨1, 0, 10, 0, [], []⟩ = (n, r) ∧ (r.bits.length = 16) := ⟨_, _, rfl, mex4⟩
    have HF4 := Lib.hid hf4
    have s0 : ((v3.alloc (.cells #[.slice q3.ca n3.coils.length q3.cc, .slice q3.ia n3.inputs.length q3.ic, .slice q3.ha n3.holding.length q3.hc, .slice q3.wa n3.words.length q3.wc] 28)).alloc (.cells #[b8 r3.fn, b8 r3.ex, .slice b3 r3.bits.length e3, .slice a3 r3.words.length c3, b16 r3.at_, b16 r3.many] 36)).cell? ⟨w.heap.size + 1 + 1, 0, none⟩ = some (.slice (some ⟨w.heap.size, 0, none⟩) 1 1) := cell_of_row _ _ _ _ _ _ KA.out.t1
    have s1 : ((v3.alloc (.cells #[.slice q3.ca n3.coils.length q3.cc, .slice q3.ia n3.inputs.length q3.ic, .slice q3.ha n3.holding.length q3.hc, .slice q3.wa n3.words.length q3.wc] 28)).alloc (.cells #[b8 r3.fn, b8 r3.ex, .slice b3 r3.bits.length e3, .slice a3 r3.words.length c3, b16 r3.at_, b16 r3.many] 36)).cell? ⟨w.heap.size + 1 + 1, 1, none⟩ = some (.slice none 0 0) := cell_of_row _ _ _ _ _ _ KA.out.t1
    have s2 : ((v3.alloc (.cells #[.slice q3.ca n3.coils.length q3.cc, .slice q3.ia n3.inputs.length q3.ic, .slice q3.ha n3.holding.length q3.hc, .slice q3.wa n3.words.length q3.wc] 28)).alloc (.cells #[b8 r3.fn, b8 r3.ex, .slice b3 r3.bits.length e3, .slice a3 r3.words.length c3, b16 r3.at_, b16 r3.many] 36)).cell? ⟨w.heap.size + 1 + 1, 2, none⟩ = some (.slice (some ⟨w.heap.size + 1, 0, none⟩) 2 2) := cell_of_row _ _ _ _ _ _ KA.out.t1
    have s3 : ((v3.alloc (.cells #[.slice q3.ca n3.coils.length q3.cc, .slice q3.ia n3.inputs.length q3.ic, .slice q3.ha n3.holding.length q3.hc, .slice q3.wa n3.words.length q3.wc] 28)).alloc (.cells #[b8 r3.fn, b8 r3.ex, .slice b3 r3.bits.length e3, .slice a3 r3.words.length c3, b16 r3.at_, b16 r3.many] 36)).cell? ⟨w.heap.size + 1 + 1, 3, none⟩ = some (.slice none 0 0) := cell_of_row _ _ _ _ _ _ KA.out.t1
    have g0 : ((v3.alloc (.cells #[.slice q3.ca n3.coils.length q3.cc, .slice q3.ia n3.inputs.length q3.ic, .slice q3.ha n3.holding.length q3.hc, .slice q3.wa n3.words.length q3.wc] 28)).alloc (.cells #[b8 r3.fn, b8 r3.ex, .slice b3 r3.bits.length e3, .slice a3 r3.words.length c3, b16 r3.at_, b16 r3.many] 36)).cell? ⟨W1.heap.size + 1 + 1, 0, none⟩ = some (.slice (some ⟨W1.heap.size + 1, 0, none⟩) 10 10) := cell_of_row _ _ _ _ _ _ KA.out.t2
    have g1 : ((v3.alloc (.cells #[.slice q3.ca n3.coils.length q3.cc, .slice q3.ia n3.inputs.length q3.ic, .slice q3.ha n3.holding.length q3.hc, .slice q3.wa n3.words.length q3.wc] 28)).alloc (.cells #[b8 r3.fn, b8 r3.ex, .slice b3 r3.bits.length e3, .slice a3 r3.words.length c3, b16 r3.at_, b16 r3.many] 36)).cell? ⟨W1.heap.size + 1 + 1, 1, none⟩ = some (.slice none 0 0) := cell_of_row _ _ _ _ _ _ KA.out.t2
    have g2 : ((v3.alloc (.cells #[.slice q3.ca n3.coils.length q3.cc, .slice q3.ia n3.inputs.length q3.ic, .slice q3.ha n3.holding.length q3.hc, .slice q3.wa n3.words.length q3.wc] 28)).alloc (.cells #[b8 r3.fn, b8 r3.ex, .slice b3 r3.bits.length e3, .slice a3 r3.words.length c3, b16 r3.at_, b16 r3.many] 36)).cell? ⟨W1.heap.size + 1 + 1, 2, none⟩ = some (.slice (some ⟨W1.heap.size, 0, none⟩) 8 8) := cell_of_row _ _ _ _ _ _ KA.out.t2
    have g3 : ((v3.alloc (.cells #[.slice q3.ca n3.coils.length q3.cc, .slice q3.ia n3.inputs.length q3.ic, .slice q3.ha n3.holding.length q3.hc, .slice q3.wa n3.words.length q3.wc] 28)).alloc (.cells #[b8 r3.fn, b8 r3.ex, .slice b3 r3.bits.length e3, .slice a3 r3.words.length c3, b16 r3.at_, b16 r3.many] 36)).cell? ⟨W1.heap.size + 1 + 1, 3, none⟩ = some (.slice none 0 0) := cell_of_row _ _ _ _ _ _ KA.out.t2
    have KV := Lib.hid (And.intro KA.out KH.out)
    have HDO := Lib.hid (Do_at sX (pX w.heap.size) mX ⟨some ⟨W1.heap.size + 1, 0, none⟩, 10, none, 0, some ⟨W1.heap.size, 0, none⟩, 8, none, 0⟩ ⟨1, 0, 10, 0, [], []⟩ none 0 none 0 ((v3.alloc (.cells #[.slice q3.ca n3.coils.length q3.cc, .slice q3.ia n3.inputs.length q3.ic, .slice q3.ha n3.holding.length q3.hc, .slice q3.wa n3.words.length q3.wc] 28)).alloc (.cells #[b8 r3.fn, b8 r3.ex, .slice b3 r3.bits.length e3, .slice a3 r3.words.length c3, b16 r3.at_, b16 r3.many] 36)) KV.out.1.sp KV.out.1.me mX_small ⟨Sl.none_, Sl.none_⟩ (by decide) (by decide))
    have HMV := HM1
    clear HM1
    rw [hd4] at HDO
    clear hd4 hf4 KA KH
    go_wp2_with fail
    generalize ((v3.alloc (.cells #[.slice q3.ca n3.coils.length q3.cc, .slice q3.ia n3.inputs.length q3.ic, .slice q3.ha n3.holding.length q3.hc, .slice q3.wa n3.words.length q3.wc] 28)).alloc (.cells #[b8 r3.fn, b8 r3.ex, .slice b3 r3.bits.length e3, .slice a3 r3.words.length c3, b16 r3.at_, b16 r3.many] 36)) = Z4 at *
    refine HDO.out.mono ?_
    rintro e v4 ⟨q4, a4, c4, b4, e4, rfl, hme4, hrp4, hb⟩
    have KV2 := Lib.hid (And.intro (KV.out.1.on hb) (KV.out.2.on hb))
    have HM2 := Lib.hid (And.intro (HMV.out.1.on hb) (HMV.out.2.below hb))
    clear HMV
    clear KV HDO hb s0 s1 s2 s3 g0 g1 g2 g3
    have hx1 : Below v4.heap.size v4 ((v4.alloc (.cells #[.slice q4.ca n4.coils.length q4.cc, .slice q4.ia n4.inputs.length q4.ic, .slice q4.ha n4.holding.length q4.hc, .slice q4.wa n4.words.length q4.wc] 28)).alloc (.cells #[b8 r4.fn, b8 r4.ex, .slice b4 r4.bits.length e4, .slice a4 r4.words.length c4, b16 r4.at_, b16 r4.many] 36)) := below_two v4 _ _
    have hx2 : ((v4.alloc (.cells #[.slice q4.ca n4.coils.length q4.cc, .slice q4.ia n4.inputs.length q4.ic, .slice q4.ha n4.holding.length q4.hc, .slice q4.wa n4.words.length q4.wc] 28)).alloc (.cells #[b8 r4.fn, b8 r4.ex, .slice b4 r4.bits.length e4, .slice a4 r4.words.length c4, b16 r4.at_, b16 r4.many] 36)).heap[v4.heap.size]? = some (.cells #[.slice q4.ca n4.coils.length q4.cc, .slice q4.ia n4.inputs.length q4.ic, .slice q4.ha n4.holding.length q4.hc, .slice q4.wa n4.words.length q4.wc] 28 (0, 0)) := (Below.heap_alloc _ _ _ (by simp)).trans (heap_alloc_new v4 _)
    have hx3 := at_one v4 (.cells #[.slice q4.ca n4.coils.length q4.cc, .slice q4.ia n4.inputs.length q4.ic, .slice q4.ha n4.holding.length q4.hc, .slice q4.wa n4.words.length q4.wc] 28) (.cells #[b8 r4.fn, b8 r4.ex, .slice b4 r4.bits.length e4, .slice a4 r4.words.length c4, b16 r4.at_, b16 r4.many] 36)
    have KA := Lib.hid (KV2.out.1.on hx1)
    have KH := Lib.hid (((KV2.out.2.on hx1).cons hx2).cons hx3)
    have HM1 : Hid (MeAt ((v4.alloc (.cells #[.slice q4.ca n4.coils.length q4.cc, .slice q4.ia n4.inputs.length q4.ic, .slice q4.ha n4.holding.length q4.hc, .slice q4.wa n4.words.length q4.wc] 28)).alloc (.cells #[b8 r4.fn, b8 r4.ex, .slice b4 r4.bits.length e4, .slice a4 r4.words.length c4, b16 r4.at_, b16 r4.many] 36)) ((v4.alloc (.cells #[.slice q4.ca n4.coils.length q4.cc, .slice q4.ia n4.inputs.length q4.ic, .slice q4.ha n4.holding.length q4.hc, .slice q4.wa n4.words.length q4.wc] 28)).alloc (.cells #[b8 r4.fn, b8 r4.ex, .slice b4 r4.bits.length e4, .slice a4 r4.words.length c4, b16 r4.at_, b16 r4.many] 36)).heap.size n1 q1 ∧ RepAt ((v4.alloc (.cells #[.slice q4.ca n4.coils.length q4.cc, .slice q4.ia n4.inputs.length q4.ic, .slice q4.ha n4.holding.length q4.hc, .slice q4.wa n4.words.length q4.wc] 28)).alloc (.cells #[b8 r4.fn, b8 r4.ex, .slice b4 r4.bits.length e4, .slice a4 r4.words.length c4, b16 r4.at_, b16 r4.many] 36)) ((v4.alloc (.cells #[.slice q4.ca n4.coils.length q4.cc, .slice q4.ia n4.inputs.length q4.ic, .slice q4.ha n4.holding.length q4.hc, .slice q4.wa n4.words.length q4.wc] 28)).alloc (.cells #[b8 r4.fn, b8 r4.ex, .slice b4 r4.bits.length e4, .slice a4 r4.words.length c4, b16 r4.at_, b16 r4.many] 36)).heap.size r1 a1 c1 b1 e1) := Lib.hid ⟨HM2.out.1.on hx1, HM2.out.2.below hx1⟩
    clear HM2
    clear hme4 hrp4 hx1 hx2 hx3 KV2
    have s0 : ((v4.alloc (.cells #[.slice q4.ca n4.coils.length q4.cc, .slice q4.ia n4.inputs.length q4.ic, .slice q4.ha n4.holding.length q4.hc, .slice q4.wa n4.words.length q4.wc] 28)).alloc (.cells #[b8 r4.fn, b8 r4.ex, .slice b4 r4.bits.length e4, .slice a4 r4.words.length c4, b16 r4.at_, b16 r4.many] 36)).cell? ⟨w.heap.size + 1 + 1, 0, none⟩ = some (.slice (some ⟨w.heap.size, 0, none⟩) 1 1) := cell_of_row _ _ _ _ _ _ KA.out.t1
    have s1 : ((v4.alloc (.cells #[.slice q4.ca n4.coils.length q4.cc, .slice q4.ia n4.inputs.length q4.ic, .slice q4.ha n4.holding.length q4.hc, .slice q4.wa n4.words.length q4.wc] 28)).alloc (.cells #[b8 r4.fn, b8 r4.ex, .slice b4 r4.bits.length e4, .slice a4 r4.words.length c4, b16 r4.at_, b16 r4.many] 36)).cell? ⟨w.heap.size + 1 + 1, 1, none⟩ = some (.slice none 0 0) := cell_of_row _ _ _ _ _ _ KA.out.t1
    have s2 : ((v4.alloc (.cells #[.slice q4.ca n4.coils.length q4.cc, .slice q4.ia n4.inputs.length q4.ic, .slice q4.ha n4.holding.length q4.hc, .slice q4.wa n4.words.length q4.wc] 28)).alloc (.cells #[b8 r4.fn, b8 r4.ex, .slice b4 r4.bits.length e4, .slice a4 r4.words.length c4, b16 r4.at_, b16 r4.many] 36)).cell? ⟨w.heap.size + 1 + 1, 2, none⟩ = some (.slice (some ⟨w.heap.size + 1, 0, none⟩) 2 2) := cell_of_row _ _ _ _ _ _ KA.out.t1
    have s3 : ((v4.alloc (.cells #[.slice q4.ca n4.coils.length q4.cc, .slice q4.ia n4.inputs.length q4.ic, .slice q4.ha n4.holding.length q4.hc, .slice q4.wa n4.words.length q4.wc] 28)).alloc (.cells #[b8 r4.fn, b8 r4.ex, .slice b4 r4.bits.length e4, .slice a4 r4.words.length c4, b16 r4.at_, b16 r4.many] 36)).cell? ⟨w.heap.size + 1 + 1, 3, none⟩ = some (.slice none 0 0) := cell_of_row _ _ _ _ _ _ KA.out.t1
    have g0 : ((v4.alloc (.cells #[.slice q4.ca n4.coils.length q4.cc, .slice q4.ia n4.inputs.length q4.ic, .slice q4.ha n4.holding.length q4.hc, .slice q4.wa n4.words.length q4.wc] 28)).alloc (.cells #[b8 r4.fn, b8 r4.ex, .slice b4 r4.bits.length e4, .slice a4 r4.words.length c4, b16 r4.at_, b16 r4.many] 36)).cell? ⟨W1.heap.size + 1 + 1, 0, none⟩ = some (.slice (some ⟨W1.heap.size + 1, 0, none⟩) 10 10) := cell_of_row _ _ _ _ _ _ KA.out.t2
    have g1 : ((v4.alloc (.cells #[.slice q4.ca n4.coils.length q4.cc, .slice q4.ia n4.inputs.length q4.ic, .slice q4.ha n4.holding.length q4.hc, .slice q4.wa n4.words.length q4.wc] 28)).alloc (.cells #[b8 r4.fn, b8 r4.ex, .slice b4 r4.bits.length e4, .slice a4 r4.words.length c4, b16 r4.at_, b16 r4.many] 36)).cell? ⟨W1.heap.size + 1 + 1, 1, none⟩ = some (.slice none 0 0) := cell_of_row _ _ _ _ _ _ KA.out.t2
    have g2 : ((v4.alloc (.cells #[.slice q4.ca n4.coils.length q4.cc, .slice q4.ia n4.inputs.length q4.ic, .slice q4.ha n4.holding.length q4.hc, .slice q4.wa n4.words.length q4.wc] 28)).alloc (.cells #[b8 r4.fn, b8 r4.ex, .slice b4 r4.bits.length e4, .slice a4 r4.words.length c4, b16 r4.at_, b16 r4.many] 36)).cell? ⟨W1.heap.size + 1 + 1, 2, none⟩ = some (.slice (some ⟨W1.heap.size, 0, none⟩) 8 8) := cell_of_row _ _ _ _ _ _ KA.out.t2
    have g3 : ((v4.alloc (.cells #[.slice q4.ca n4.coils.length q4.cc, .slice q4.ia n4.inputs.length q4.ic, .slice q4.ha n4.holding.length q4.hc, .slice q4.wa n4.words.length q4.wc] 28)).alloc (.cells #[b8 r4.fn, b8 r4.ex, .slice b4 r4.bits.length e4, .slice a4 r4.words.length c4, b16 r4.at_, b16 r4.many] 36)).cell? ⟨W1.heap.size + 1 + 1, 3, none⟩ = some (.slice none 0 0) := cell_of_row _ _ _ _ _ _ KA.out.t2
    have HRI := Lib.hid (MRight_any sX mX (pX w.heap.size) ⟨some ⟨W1.heap.size + 1, 0, none⟩, 10, none, 0, some ⟨W1.heap.size, 0, none⟩, 8, none, 0⟩ ((v4.alloc (.cells #[.slice q4.ca n4.coils.length q4.cc, .slice q4.ia n4.inputs.length q4.ic, .slice q4.ha n4.holding.length q4.hc, .slice q4.wa n4.words.length q4.wc] 28)).alloc (.cells #[b8 r4.fn, b8 r4.ex, .slice b4 r4.bits.length e4, .slice a4 r4.words.length c4, b16 r4.at_, b16 r4.many] 36)) KA.out.sp KA.out.me mX_small)
    rw [mex5] at HRI
    go_wp2_with fail
    generalize ((v4.alloc (.cells #[.slice q4.ca n4.coils.length q4.cc, .slice q4.ia n4.inputs.length q4.ic, .slice q4.ha n4.holding.length q4.hc, .slice q4.wa n4.words.length q4.wc] 28)).alloc (.cells #[b8 r4.fn, b8 r4.ex, .slice b4 r4.bits.length e4, .slice a4 r4.words.length c4, b16 r4.at_, b16 r4.many] 36)) = Z5 at *
    refine HRI.out.mono ?_
    rintro e z1 ⟨rfl, hb⟩
    have KZ := Lib.hid (And.intro (KA.out.below.trans (hb.mono KA.out.below.size)) (And.intro (KH.out.on hb) (And.intro (HM1.out.1.on hb) (HM1.out.2.below hb))))
    clear hb KA KH HM1 HRI s0 s1 s2 s3 g0 g1 g2 g3
    obtain ⟨hl, hi, hr⟩ := HF1.out
    subst hr
    obtain ⟨xb7, xo7, x7, hq7, -, hx7, hc7⟩ := KZ.out.2.2.1.holding.at_ (k := 7) (by omega)
    have h7 : x7 = 4 := by rw [hi] at hx7; injection hx7 with hx7; exact hx7.symm
    subst h7
    have u2 : z1.cell? ⟨v1.heap.size, 2, none⟩ = some (.slice q1.ha n1.holding.length q1.hc) := cell_of_row _ _ _ _ _ _ (KZ.out.2.1 (v1.heap.size, #[.slice q1.ca n1.coils.length q1.cc, .slice q1.ia n1.inputs.length q1.ic, .slice q1.ha n1.holding.length q1.hc, .slice q1.wa n1.words.length q1.wc], 28) (by simp))
    have y0 : z1.cell? ⟨v1.heap.size + 1, 0, none⟩ = some (b8 16) := cell_of_row _ _ _ _ _ _ (KZ.out.2.1 (v1.heap.size + 1, #[b8 16, b8 0, .slice b1 0 e1, .slice a1 0 c1, b16 4, b16 4], 36) (by simp))
    have y1 : z1.cell? ⟨v1.heap.size + 1, 1, none⟩ = some (b8 0) := cell_of_row _ _ _ _ _ _ (KZ.out.2.1 (v1.heap.size + 1, #[b8 16, b8 0, .slice b1 0 e1, .slice a1 0 c1, b16 4, b16 4], 36) (by simp))
    have y2 : z1.cell? ⟨v1.heap.size + 1, 2, none⟩ = some (.slice b1 0 e1) := cell_of_row _ _ _ _ _ _ (KZ.out.2.1 (v1.heap.size + 1, #[b8 16, b8 0, .slice b1 0 e1, .slice a1 0 c1, b16 4, b16 4], 36) (by simp))
    have y3 : z1.cell? ⟨v1.heap.size + 1, 3, none⟩ = some (.slice a1 0 c1) := cell_of_row _ _ _ _ _ _ (KZ.out.2.1 (v1.heap.size + 1, #[b8 16, b8 0, .slice b1 0 e1, .slice a1 0 c1, b16 4, b16 4], 36) (by simp))
    have y4 : z1.cell? ⟨v1.heap.size + 1, 4, none⟩ = some (b16 4) := cell_of_row _ _ _ _ _ _ (KZ.out.2.1 (v1.heap.size + 1, #[b8 16, b8 0, .slice b1 0 e1, .slice a1 0 c1, b16 4, b16 4], 36) (by simp))
    have y5 : z1.cell? ⟨v1.heap.size + 1, 5, none⟩ = some (b16 4) := cell_of_row _ _ _ _ _ _ (KZ.out.2.1 (v1.heap.size + 1, #[b8 16, b8 0, .slice b1 0 e1, .slice a1 0 c1, b16 4, b16 4], 36) (by simp))
    rw [hq7, hl] at u2
    have hcm := len_le KZ.out.2.2.1.holding
    have HSM := Lib.hid (RSame_any ⟨16, 0, [], [], 4, 4⟩ ⟨16, 0, [], [], 4, 4⟩ a1 c1 b1 e1 none 0 none 0 z1 KZ.out.2.2.2 (RepAt.nil rfl rfl))
    rw [decide_eq_true rfl] at HSM
    clear hl hi hx7
    go_wp2_with fail
    refine HSM.out.mono ?_
    rintro e z2 ⟨rfl, hb⟩
    have KZ2 := Lib.hid (And.intro (KZ.out.1.trans (hb.mono KZ.out.1.size)) (KZ.out.2.1.on hb))
    clear hb KZ HSM u2 y0 y1 y2 y3 y4 y5 hc7
    have p2 : z2.cell? ⟨v2.heap.size + 1, 1, none⟩ = some (b8 r2.ex) := cell_of_row _ _ _ _ _ _ (KZ2.out.2 (v2.heap.size + 1, #[b8 r2.fn, b8 r2.ex, .slice b2 r2.bits.length e2, .slice a2 r2.words.length c2, b16 r2.at_, b16 r2.many], 36) (by simp))
    rw [HF2.out] at p2
    have p3 : z2.cell? ⟨v3.heap.size + 1, 1, none⟩ = some (b8 r3.ex) := cell_of_row _ _ _ _ _ _ (KZ2.out.2 (v3.heap.size + 1, #[b8 r3.fn, b8 r3.ex, .slice b3 r3.bits.length e3, .slice a3 r3.words.length c3, b16 r3.at_, b16 r3.many], 36) (by simp))
    rw [HF3.out] at p3
    have p4 : z2.cell? ⟨v4.heap.size + 1, 2, none⟩ = some (.slice b4 r4.bits.length e4) := cell_of_row _ _ _ _ _ _ (KZ2.out.2 (v4.heap.size + 1, #[b8 r4.fn, b8 r4.ex, .slice b4 r4.bits.length e4, .slice a4 r4.words.length c4, b16 r4.at_, b16 r4.many], 36) (by simp))
    rw [HF4.out] at p4
    go_wp2_with fail
    go_ret
    exact Says.mk KZ2.out.1
  · have HQ := Lib.hid (HMK.out (((W1.alloc (.cells #[.int .u16 0, .int .u16 0, .int .u16 0, .int .u16 0, .int .u16 0, .int .u16 0, .int .u16 0, .int .u16 0] 29)).alloc (.cells #[.slice (some ⟨W1.heap.size + 1 + 1, 0, none⟩) 10 10, .slice none 0 0, .slice (some ⟨W1.heap.size, 0, none⟩) 8 8, .slice none 0 0] 28)).alloc (.cells #[.bool false, .bool false, .bool false, .bool false, .bool false, .bool false, .bool false, .bool false, .bool false, .bool false] 4)).drew (three_rows W1 _ _ _).1 (W1.heap.size + 1 + 1) (W1.heap.size) (W1.heap.size + 1) ((three_rows W1 (.cells #[.int .u16 0, .int .u16 0, .int .u16 0, .int .u16 0, .int .u16 0, .int .u16 0, .int .u16 0, .int .u16 0] 29) (.cells #[.slice (some ⟨W1.heap.size + 1 + 1, 0, none⟩) 10 10, .slice none 0 0, .slice (some ⟨W1.heap.size, 0, none⟩) 8 8, .slice none 0 0] 28) (.cells #[.bool false, .bool false, .bool false, .bool false, .bool false, .bool false, .bool false, .bool false, .bool false, .bool false] 4)).2.2.2) ((three_rows W1 (.cells #[.int .u16 0, .int .u16 0, .int .u16 0, .int .u16 0, .int .u16 0, .int .u16 0, .int .u16 0, .int .u16 0] 29) (.cells #[.slice (some ⟨W1.heap.size + 1 + 1, 0, none⟩) 10 10, .slice none 0 0, .slice (some ⟨W1.heap.size, 0, none⟩) 8 8, .slice none 0 0] 28) (.cells #[.bool false, .bool false, .bool false, .bool false, .bool false, .bool false, .bool false, .bool false, .bool false, .bool false] 4)).2.1) ((three_rows W1 (.cells #[.int .u16 0, .int .u16 0, .int .u16 0, .int .u16 0, .int .u16 0, .int .u16 0, .int .u16 0, .int .u16 0] 29) (.cells #[.slice (some ⟨W1.heap.size + 1 + 1, 0, none⟩) 10 10, .slice none 0 0, .slice (some ⟨W1.heap.size, 0, none⟩) 8 8, .slice none 0 0] 28) (.cells #[.bool false, .bool false, .bool false, .bool false, .bool false, .bool false, .bool false, .bool false, .bool false, .bool false] 4)).2.2.1))
    clear hmB hmW
    generalize (((W1.alloc (.cells #[.int .u16 0, .int .u16 0, .int .u16 0, .int .u16 0, .int .u16 0, .int .u16 0, .int .u16 0, .int .u16 0] 29)).alloc (.cells #[.slice (some ⟨W1.heap.size + 1 + 1, 0, none⟩) 10 10, .slice none 0 0, .slice (some ⟨W1.heap.size, 0, none⟩) 8 8, .slice none 0 0] 28)).alloc (.cells #[.bool false, .bool false, .bool false, .bool false, .bool false, .bool false, .bool false, .bool false, .bool false, .bool false] 4)).drew = WE at *
    have KA := HQ
    have KH : Hid (Has WE []) := Lib.hid fun x hx => by cases hx
    clear HQ HMK
    obtain ⟨n1, r1, hd1, hf1⟩ : ∃ n r, doN sX mX ⟨16, 4, 4, 0, [1, 2, 3, 4], []⟩ = (n, r) ∧ (n.holding.length = 8 ∧ n.holding[7]? = some 4 ∧ r = ⟨16, 0, [], [], 4, 4⟩) := ⟨_, _, rfl, mex1⟩
    have HF1 := Lib.hid hf1
    have s0 : WE.cell? ⟨w.heap.size + 1 + 1, 0, none⟩ = some (.slice (some ⟨w.heap.size, 0, none⟩) 1 1) := cell_of_row _ _ _ _ _ _ KA.out.t1
    have s1 : WE.cell? ⟨w.heap.size + 1 + 1, 1, none⟩ = some (.slice none 0 0) := cell_of_row _ _ _ _ _ _ KA.out.t1
    have s2 : WE.cell? ⟨w.heap.size + 1 + 1, 2, none⟩ = some (.slice (some ⟨w.heap.size + 1, 0, none⟩) 2 2) := cell_of_row _ _ _ _ _ _ KA.out.t1
    have s3 : WE.cell? ⟨w.heap.size + 1 + 1, 3, none⟩ = some (.slice none 0 0) := cell_of_row _ _ _ _ _ _ KA.out.t1
    have g0 : WE.cell? ⟨W1.heap.size + 1, 0, none⟩ = some (.slice (some ⟨W1.heap.size + 1 + 1, 0, none⟩) 10 10) := cell_of_row _ _ _ _ _ _ KA.out.t2
    have g1 : WE.cell? ⟨W1.heap.size + 1, 1, none⟩ = some (.slice none 0 0) := cell_of_row _ _ _ _ _ _ KA.out.t2
    have g2 : WE.cell? ⟨W1.heap.size + 1, 2, none⟩ = some (.slice (some ⟨W1.heap.size, 0, none⟩) 8 8) := cell_of_row _ _ _ _ _ _ KA.out.t2
    have g3 : WE.cell? ⟨W1.heap.size + 1, 3, none⟩ = some (.slice none 0 0) := cell_of_row _ _ _ _ _ _ KA.out.t2
    have hV := below_al WE (.cells #[.int .u16 1, .int .u16 2, .int .u16 3, .int .u16 4] 29)
    have KV := Lib.hid (And.intro (KA.out.on hV) (KH.out.on hV))
    have hA : (WE.alloc (.cells #[.int .u16 1, .int .u16 2, .int .u16 3, .int .u16 4] 29)).heap[WE.heap.size]? = some (.cells #[.int .u16 1, .int .u16 2, .int .u16 3, .int .u16 4] 29 (0, 0)) := heap_alloc_new WE _
    have HDO := Lib.hid (Do_at sX (pX w.heap.size) mX ⟨some ⟨W1.heap.size + 1 + 1, 0, none⟩, 10, none, 0, some ⟨W1.heap.size, 0, none⟩, 8, none, 0⟩ ⟨16, 4, 4, 0, [1, 2, 3, 4], []⟩ (some ⟨WE.heap.size, 0, none⟩) 4 none 0 (WE.alloc (.cells #[.int .u16 1, .int .u16 2, .int .u16 3, .int .u16 4] 29)) KV.out.1.sp KV.out.1.me mX_small ⟨row_sl hA _ 4 rfl rfl (by omega), Sl.none_⟩ (by decide) (by decide))
    clear hA
    clear hV
    rw [hd1] at HDO
    clear hd1 hf1 KA KH
    go_wp2_with fail
    refine HDO.out.mono ?_
    rintro e v1 ⟨q1, a1, c1, b1, e1, rfl, hme1, hrp1, hb⟩
    have KV2 := Lib.hid (And.intro (KV.out.1.on hb) (KV.out.2.on hb))
    clear KV HDO hb s0 s1 s2 s3 g0 g1 g2 g3
    have hx1 : Below v1.heap.size v1 ((v1.alloc (.cells #[.slice q1.ca n1.coils.length q1.cc, .slice q1.ia n1.inputs.length q1.ic, .slice q1.ha n1.holding.length q1.hc, .slice q1.wa n1.words.length q1.wc] 28)).alloc (.cells #[b8 r1.fn, b8 r1.ex, .slice b1 r1.bits.length e1, .slice a1 r1.words.length c1, b16 r1.at_, b16 r1.many] 36)) := below_two v1 _ _
    have hx2 : ((v1.alloc (.cells #[.slice q1.ca n1.coils.length q1.cc, .slice q1.ia n1.inputs.length q1.ic, .slice q1.ha n1.holding.length q1.hc, .slice q1.wa n1.words.length q1.wc] 28)).alloc (.cells #[b8 r1.fn, b8 r1.ex, .slice b1 r1.bits.length e1, .slice a1 r1.words.length c1, b16 r1.at_, b16 r1.many] 36)).heap[v1.heap.size]? = some (.cells #[.slice q1.ca n1.coils.length q1.cc, .slice q1.ia n1.inputs.length q1.ic, .slice q1.ha n1.holding.length q1.hc, .slice q1.wa n1.words.length q1.wc] 28 (0, 0)) := (Below.heap_alloc _ _ _ (by simp)).trans (heap_alloc_new v1 _)
    have hx3 := at_one v1 (.cells #[.slice q1.ca n1.coils.length q1.cc, .slice q1.ia n1.inputs.length q1.ic, .slice q1.ha n1.holding.length q1.hc, .slice q1.wa n1.words.length q1.wc] 28) (.cells #[b8 r1.fn, b8 r1.ex, .slice b1 r1.bits.length e1, .slice a1 r1.words.length c1, b16 r1.at_, b16 r1.many] 36)
    have KA := Lib.hid (KV2.out.1.on hx1)
    have KH := Lib.hid (((KV2.out.2.on hx1).cons hx2).cons hx3)
    have HM1 : Hid (MeAt ((v1.alloc (.cells #[.slice q1.ca n1.coils.length q1.cc, .slice q1.ia n1.inputs.length q1.ic, .slice q1.ha n1.holding.length q1.hc, .slice q1.wa n1.words.length q1.wc] 28)).alloc (.cells #[b8 r1.fn, b8 r1.ex, .slice b1 r1.bits.length e1, .slice a1 r1.words.length c1, b16 r1.at_, b16 r1.many] 36)) ((v1.alloc (.cells #[.slice q1.ca n1.coils.length q1.cc, .slice q1.ia n1.inputs.length q1.ic, .slice q1.ha n1.holding.length q1.hc, .slice q1.wa n1.words.length q1.wc] 28)).alloc (.cells #[b8 r1.fn, b8 r1.ex, .slice b1 r1.bits.length e1, .slice a1 r1.words.length c1, b16 r1.at_, b16 r1.many] 36)).heap.size n1 q1 ∧ RepAt ((v1.alloc (.cells #[.slice q1.ca n1.coils.length q1.cc, .slice q1.ia n1.inputs.length q1.ic, .slice q1.ha n1.holding.length q1.hc, .slice q1.wa n1.words.length q1.wc] 28)).alloc (.cells #[b8 r1.fn, b8 r1.ex, .slice b1 r1.bits.length e1, .slice a1 r1.words.length c1, b16 r1.at_, b16 r1.many] 36)) ((v1.alloc (.cells #[.slice q1.ca n1.coils.length q1.cc, .slice q1.ia n1.inputs.length q1.ic, .slice q1.ha n1.holding.length q1.hc, .slice q1.wa n1.words.length q1.wc] 28)).alloc (.cells #[b8 r1.fn, b8 r1.ex, .slice b1 r1.bits.length e1, .slice a1 r1.words.length c1, b16 r1.at_, b16 r1.many] 36)).heap.size r1 a1 c1 b1 e1) := Lib.hid ⟨hme1.on hx1, hrp1.below hx1⟩
    clear hme1 hrp1 hx1 hx2 hx3 KV2
    obtain ⟨n2, r2, hd2, hf2⟩ : ∃ n r, doN sX mX ⟨16, 4, 2, 0, [1, 2], []⟩ = (n, r) ∧ (r.ex = 2) := ⟨_, _, rfl, mex2⟩
    have HF2 := Lib.hid hf2
    have s0 : ((v1.alloc (.cells #[.slice q1.ca n1.coils.length q1.cc, .slice q1.ia n1.inputs.length q1.ic, .slice q1.ha n1.holding.length q1.hc, .slice q1.wa n1.words.length q1.wc] 28)).alloc (.cells #[b8 r1.fn, b8 r1.ex, .slice b1 r1.bits.length e1, .slice a1 r1.words.length c1, b16 r1.at_, b16 r1.many] 36)).cell? ⟨w.heap.size + 1 + 1, 0, none⟩ = some (.slice (some ⟨w.heap.size, 0, none⟩) 1 1) := cell_of_row _ _ _ _ _ _ KA.out.t1
    have s1 : ((v1.alloc (.cells #[.slice q1.ca n1.coils.length q1.cc, .slice q1.ia n1.inputs.length q1.ic, .slice q1.ha n1.holding.length q1.hc, .slice q1.wa n1.words.length q1.wc] 28)).alloc (.cells #[b8 r1.fn, b8 r1.ex, .slice b1 r1.bits.length e1, .slice a1 r1.words.length c1, b16 r1.at_, b16 r1.many] 36)).cell? ⟨w.heap.size + 1 + 1, 1, none⟩ = some (.slice none 0 0) := cell_of_row _ _ _ _ _ _ KA.out.t1
    have s2 : ((v1.alloc (.cells #[.slice q1.ca n1.coils.length q1.cc, .slice q1.ia n1.inputs.length q1.ic, .slice q1.ha n1.holding.length q1.hc, .slice q1.wa n1.words.length q1.wc] 28)).alloc (.cells #[b8 r1.fn, b8 r1.ex, .slice b1 r1.bits.length e1, .slice a1 r1.words.length c1, b16 r1.at_, b16 r1.many] 36)).cell? ⟨w.heap.size + 1 + 1, 2, none⟩ = some (.slice (some ⟨w.heap.size + 1, 0, none⟩) 2 2) := cell_of_row _ _ _ _ _ _ KA.out.t1
    have s3 : ((v1.alloc (.cells #[.slice q1.ca n1.coils.length q1.cc, .slice q1.ia n1.inputs.length q1.ic, .slice q1.ha n1.holding.length q1.hc, .slice q1.wa n1.words.length q1.wc] 28)).alloc (.cells #[b8 r1.fn, b8 r1.ex, .slice b1 r1.bits.length e1, .slice a1 r1.words.length c1, b16 r1.at_, b16 r1.many] 36)).cell? ⟨w.heap.size + 1 + 1, 3, none⟩ = some (.slice none 0 0) := cell_of_row _ _ _ _ _ _ KA.out.t1
    have g0 : ((v1.alloc (.cells #[.slice q1.ca n1.coils.length q1.cc, .slice q1.ia n1.inputs.length q1.ic, .slice q1.ha n1.holding.length q1.hc, .slice q1.wa n1.words.length q1.wc] 28)).alloc (.cells #[b8 r1.fn, b8 r1.ex, .slice b1 r1.bits.length e1, .slice a1 r1.words.length c1, b16 r1.at_, b16 r1.many] 36)).cell? ⟨W1.heap.size + 1, 0, none⟩ = some (.slice (some ⟨W1.heap.size + 1 + 1, 0, none⟩) 10 10) := cell_of_row _ _ _ _ _ _ KA.out.t2
    have g1 : ((v1.alloc (.cells #[.slice q1.ca n1.coils.length q1.cc, .slice q1.ia n1.inputs.length q1.ic, .slice q1.ha n1.holding.length q1.hc, .slice q1.wa n1.words.length q1.wc] 28)).alloc (.cells #[b8 r1.fn, b8 r1.ex, .slice b1 r1.bits.length e1, .slice a1 r1.words.length c1, b16 r1.at_, b16 r1.many] 36)).cell? ⟨W1.heap.size + 1, 1, none⟩ = some (.slice none 0 0) := cell_of_row _ _ _ _ _ _ KA.out.t2
    have g2 : ((v1.alloc (.cells #[.slice q1.ca n1.coils.length q1.cc, .slice q1.ia n1.inputs.length q1.ic, .slice q1.ha n1.holding.length q1.hc, .slice q1.wa n1.words.length q1.wc] 28)).alloc (.cells #[b8 r1.fn, b8 r1.ex, .slice b1 r1.bits.length e1, .slice a1 r1.words.length c1, b16 r1.at_, b16 r1.many] 36)).cell? ⟨W1.heap.size + 1, 2, none⟩ = some (.slice (some ⟨W1.heap.size, 0, none⟩) 8 8) := cell_of_row _ _ _ _ _ _ KA.out.t2
    have g3 : ((v1.alloc (.cells #[.slice q1.ca n1.coils.length q1.cc, .slice q1.ia n1.inputs.length q1.ic, .slice q1.ha n1.holding.length q1.hc, .slice q1.wa n1.words.length q1.wc] 28)).alloc (.cells #[b8 r1.fn, b8 r1.ex, .slice b1 r1.bits.length e1, .slice a1 r1.words.length c1, b16 r1.at_, b16 r1.many] 36)).cell? ⟨W1.heap.size + 1, 3, none⟩ = some (.slice none 0 0) := cell_of_row _ _ _ _ _ _ KA.out.t2
    have hV := below_al ((v1.alloc (.cells #[.slice q1.ca n1.coils.length q1.cc, .slice q1.ia n1.inputs.length q1.ic, .slice q1.ha n1.holding.length q1.hc, .slice q1.wa n1.words.length q1.wc] 28)).alloc (.cells #[b8 r1.fn, b8 r1.ex, .slice b1 r1.bits.length e1, .slice a1 r1.words.length c1, b16 r1.at_, b16 r1.many] 36)) (.cells #[.int .u16 1, .int .u16 2] 29)
    have KV := Lib.hid (And.intro (KA.out.on hV) (KH.out.on hV))
    have hA : (((v1.alloc (.cells #[.slice q1.ca n1.coils.length q1.cc, .slice q1.ia n1.inputs.length q1.ic, .slice q1.ha n1.holding.length q1.hc, .slice q1.wa n1.words.length q1.wc] 28)).alloc (.cells #[b8 r1.fn, b8 r1.ex, .slice b1 r1.bits.length e1, .slice a1 r1.words.length c1, b16 r1.at_, b16 r1.many] 36)).alloc (.cells #[.int .u16 1, .int .u16 2] 29)).heap[v1.heap.size + 1 + 1]? = some (.cells #[.int .u16 1, .int .u16 2] 29 (0, 0)) := at_two v1 _ _ _
    have HDO := Lib.hid (Do_at sX (pX w.heap.size) mX ⟨some ⟨W1.heap.size + 1 + 1, 0, none⟩, 10, none, 0, some ⟨W1.heap.size, 0, none⟩, 8, none, 0⟩ ⟨16, 4, 2, 0, [1, 2], []⟩ (some ⟨v1.heap.size + 1 + 1, 0, none⟩) 2 none 0 (((v1.alloc (.cells #[.slice q1.ca n1.coils.length q1.cc, .slice q1.ia n1.inputs.length q1.ic, .slice q1.ha n1.holding.length q1.hc, .slice q1.wa n1.words.length q1.wc] 28)).alloc (.cells #[b8 r1.fn, b8 r1.ex, .slice b1 r1.bits.length e1, .slice a1 r1.words.length c1, b16 r1.at_, b16 r1.many] 36)).alloc (.cells #[.int .u16 1, .int .u16 2] 29)) KV.out.1.sp KV.out.1.me mX_small ⟨row_sl hA _ 2 rfl rfl (by omega), Sl.none_⟩ (by decide) (by decide))
    clear hA
    have HMV := Lib.hid (And.intro (HM1.out.1.on hV) (HM1.out.2.below hV))
    clear HM1
    clear hV
    rw [hd2] at HDO
    clear hd2 hf2 KA KH
    go_wp2_with fail
    generalize ((v1.alloc (.cells #[.slice q1.ca n1.coils.length q1.cc, .slice q1.ia n1.inputs.length q1.ic, .slice q1.ha n1.holding.length q1.hc, .slice q1.wa n1.words.length q1.wc] 28)).alloc (.cells #[b8 r1.fn, b8 r1.ex, .slice b1 r1.bits.length e1, .slice a1 r1.words.length c1, b16 r1.at_, b16 r1.many] 36)) = Z2 at *
    refine HDO.out.mono ?_
    rintro e v2 ⟨q2, a2, c2, b2, e2, rfl, hme2, hrp2, hb⟩
    have KV2 := Lib.hid (And.intro (KV.out.1.on hb) (KV.out.2.on hb))
    have HM2 := Lib.hid (And.intro (HMV.out.1.on hb) (HMV.out.2.below hb))
    clear HMV
    clear KV HDO hb s0 s1 s2 s3 g0 g1 g2 g3
    have hx1 : Below v2.heap.size v2 ((v2.alloc (.cells #[.slice q2.ca n2.coils.length q2.cc, .slice q2.ia n2.inputs.length q2.ic, .slice q2.ha n2.holding.length q2.hc, .slice q2.wa n2.words.length q2.wc] 28)).alloc (.cells #[b8 r2.fn, b8 r2.ex, .slice b2 r2.bits.length e2, .slice a2 r2.words.length c2, b16 r2.at_, b16 r2.many] 36)) := below_two v2 _ _
    have hx2 : ((v2.alloc (.cells #[.slice q2.ca n2.coils.length q2.cc, .slice q2.ia n2.inputs.length q2.ic, .slice q2.ha n2.holding.length q2.hc, .slice q2.wa n2.words.length q2.wc] 28)).alloc (.cells #[b8 r2.fn, b8 r2.ex, .slice b2 r2.bits.length e2, .slice a2 r2.words.length c2, b16 r2.at_, b16 r2.many] 36)).heap[v2.heap.size]? = some (.cells #[.slice q2.ca n2.coils.length q2.cc, .slice q2.ia n2.inputs.length q2.ic, .slice q2.ha n2.holding.length q2.hc, .slice q2.wa n2.words.length q2.wc] 28 (0, 0)) := (Below.heap_alloc _ _ _ (by simp)).trans (heap_alloc_new v2 _)
    have hx3 := at_one v2 (.cells #[.slice q2.ca n2.coils.length q2.cc, .slice q2.ia n2.inputs.length q2.ic, .slice q2.ha n2.holding.length q2.hc, .slice q2.wa n2.words.length q2.wc] 28) (.cells #[b8 r2.fn, b8 r2.ex, .slice b2 r2.bits.length e2, .slice a2 r2.words.length c2, b16 r2.at_, b16 r2.many] 36)
    have KA := Lib.hid (KV2.out.1.on hx1)
    have KH := Lib.hid (((KV2.out.2.on hx1).cons hx2).cons hx3)
    have HM1 : Hid (MeAt ((v2.alloc (.cells #[.slice q2.ca n2.coils.length q2.cc, .slice q2.ia n2.inputs.length q2.ic, .slice q2.ha n2.holding.length q2.hc, .slice q2.wa n2.words.length q2.wc] 28)).alloc (.cells #[b8 r2.fn, b8 r2.ex, .slice b2 r2.bits.length e2, .slice a2 r2.words.length c2, b16 r2.at_, b16 r2.many] 36)) ((v2.alloc (.cells #[.slice q2.ca n2.coils.length q2.cc, .slice q2.ia n2.inputs.length q2.ic, .slice q2.ha n2.holding.length q2.hc, .slice q2.wa n2.words.length q2.wc] 28)).alloc (.cells #[b8 r2.fn, b8 r2.ex, .slice b2 r2.bits.length e2, .slice a2 r2.words.length c2, b16 r2.at_, b16 r2.many] 36)).heap.size n1 q1 ∧ RepAt ((v2.alloc (.cells #[.slice q2.ca n2.coils.length q2.cc, .slice q2.ia n2.inputs.length q2.ic, .slice q2.ha n2.holding.length q2.hc, .slice q2.wa n2.words.length q2.wc] 28)).alloc (.cells #[b8 r2.fn, b8 r2.ex, .slice b2 r2.bits.length e2, .slice a2 r2.words.length c2, b16 r2.at_, b16 r2.many] 36)) ((v2.alloc (.cells #[.slice q2.ca n2.coils.length q2.cc, .slice q2.ia n2.inputs.length q2.ic, .slice q2.ha n2.holding.length q2.hc, .slice q2.wa n2.words.length q2.wc] 28)).alloc (.cells #[b8 r2.fn, b8 r2.ex, .slice b2 r2.bits.length e2, .slice a2 r2.words.length c2, b16 r2.at_, b16 r2.many] 36)).heap.size r1 a1 c1 b1 e1) := Lib.hid ⟨HM2.out.1.on hx1, HM2.out.2.below hx1⟩
    clear HM2
    clear hme2 hrp2 hx1 hx2 hx3 KV2
    obtain ⟨n3, r3, hd3, hf3⟩ : ∃ n r, doN sX mX ⟨3, 2, 4, 0, [], []⟩ = (n, r) ∧ (r.ex = 2) := ⟨_, _, rfl, mex3⟩
    have HF3 := Lib.hid hf3
    have s0 : ((v2.alloc (.cells #[.slice q2.ca n2.coils.length q2.cc, .slice q2.ia n2.inputs.length q2.ic, .slice q2.ha n2.holding.length q2.hc, .slice q2.wa n2.words.length q2.wc] 28)).alloc (.cells #[b8 r2.fn, b8 r2.ex, .slice b2 r2.bits.length e2, .slice a2 r2.words.length c2, b16 r2.at_, b16 r2.many] 36)).cell? ⟨w.heap.size + 1 + 1, 0, none⟩ = some (.slice (some ⟨w.heap.size, 0, none⟩) 1 1) := cell_of_row _ _ _ _ _ _ KA.out.t1
    have s1 : ((v2.alloc (.cells #[.slice q2.ca n2.coils.length q2.cc, .slice q2.ia n2.inputs.length q2.ic, .slice q2.ha n2.holding.length q2.hc, .slice q2.wa n2.words.length q2.wc] 28)).alloc (.cells #[b8 r2.fn, b8 r2.ex, .slice b2 r2.bits.length e2, .slice a2 r2.words.length c2, b16 r2.at_, b16 r2.many] 36)).cell? ⟨w.heap.size + 1 + 1, 1, none⟩ = some (.slice none 0 0) := cell_of_row _ _ _ _ _ _ KA.out.t1
    have s2 : ((v2.alloc (.cells #[.slice q2.ca n2.coils.length q2.cc, .slice q2.ia n2.inputs.length q2.ic, .slice q2.ha n2.holding.length q2.hc, .slice q2.wa n2.words.length q2.wc] 28)).alloc (.cells #[b8 r2.fn, b8 r2.ex, .slice b2 r2.bits.length e2, .slice a2 r2.words.length c2, b16 r2.at_, b16 r2.many] 36)).cell? ⟨w.heap.size + 1 + 1, 2, none⟩ = some (.slice (some ⟨w.heap.size + 1, 0, none⟩) 2 2) := cell_of_row _ _ _ _ _ _ KA.out.t1
    have s3 : ((v2.alloc (.cells #[.slice q2.ca n2.coils.length q2.cc, .slice q2.ia n2.inputs.length q2.ic, .slice q2.ha n2.holding.length q2.hc, .slice q2.wa n2.words.length q2.wc] 28)).alloc (.cells #[b8 r2.fn, b8 r2.ex, .slice b2 r2.bits.length e2, .slice a2 r2.words.length c2, b16 r2.at_, b16 r2.many] 36)).cell? ⟨w.heap.size + 1 + 1, 3, none⟩ = some (.slice none 0 0) := cell_of_row _ _ _ _ _ _ KA.out.t1
    have g0 : ((v2.alloc (.cells #[.slice q2.ca n2.coils.length q2.cc, .slice q2.ia n2.inputs.length q2.ic, .slice q2.ha n2.holding.length q2.hc, .slice q2.wa n2.words.length q2.wc] 28)).alloc (.cells #[b8 r2.fn, b8 r2.ex, .slice b2 r2.bits.length e2, .slice a2 r2.words.length c2, b16 r2.at_, b16 r2.many] 36)).cell? ⟨W1.heap.size + 1, 0, none⟩ = some (.slice (some ⟨W1.heap.size + 1 + 1, 0, none⟩) 10 10) := cell_of_row _ _ _ _ _ _ KA.out.t2
    have g1 : ((v2.alloc (.cells #[.slice q2.ca n2.coils.length q2.cc, .slice q2.ia n2.inputs.length q2.ic, .slice q2.ha n2.holding.length q2.hc, .slice q2.wa n2.words.length q2.wc] 28)).alloc (.cells #[b8 r2.fn, b8 r2.ex, .slice b2 r2.bits.length e2, .slice a2 r2.words.length c2, b16 r2.at_, b16 r2.many] 36)).cell? ⟨W1.heap.size + 1, 1, none⟩ = some (.slice none 0 0) := cell_of_row _ _ _ _ _ _ KA.out.t2
    have g2 : ((v2.alloc (.cells #[.slice q2.ca n2.coils.length q2.cc, .slice q2.ia n2.inputs.length q2.ic, .slice q2.ha n2.holding.length q2.hc, .slice q2.wa n2.words.length q2.wc] 28)).alloc (.cells #[b8 r2.fn, b8 r2.ex, .slice b2 r2.bits.length e2, .slice a2 r2.words.length c2, b16 r2.at_, b16 r2.many] 36)).cell? ⟨W1.heap.size + 1, 2, none⟩ = some (.slice (some ⟨W1.heap.size, 0, none⟩) 8 8) := cell_of_row _ _ _ _ _ _ KA.out.t2
    have g3 : ((v2.alloc (.cells #[.slice q2.ca n2.coils.length q2.cc, .slice q2.ia n2.inputs.length q2.ic, .slice q2.ha n2.holding.length q2.hc, .slice q2.wa n2.words.length q2.wc] 28)).alloc (.cells #[b8 r2.fn, b8 r2.ex, .slice b2 r2.bits.length e2, .slice a2 r2.words.length c2, b16 r2.at_, b16 r2.many] 36)).cell? ⟨W1.heap.size + 1, 3, none⟩ = some (.slice none 0 0) := cell_of_row _ _ _ _ _ _ KA.out.t2
    have KV := Lib.hid (And.intro KA.out KH.out)
    have HDO := Lib.hid (Do_at sX (pX w.heap.size) mX ⟨some ⟨W1.heap.size + 1 + 1, 0, none⟩, 10, none, 0, some ⟨W1.heap.size, 0, none⟩, 8, none, 0⟩ ⟨3, 2, 4, 0, [], []⟩ none 0 none 0 ((v2.alloc (.cells #[.slice q2.ca n2.coils.length q2.cc, .slice q2.ia n2.inputs.length q2.ic, .slice q2.ha n2.holding.length q2.hc, .slice q2.wa n2.words.length q2.wc] 28)).alloc (.cells #[b8 r2.fn, b8 r2.ex, .slice b2 r2.bits.length e2, .slice a2 r2.words.length c2, b16 r2.at_, b16 r2.many] 36)) KV.out.1.sp KV.out.1.me mX_small ⟨Sl.none_, Sl.none_⟩ (by decide) (by decide))
    have HMV := HM1
    clear HM1
    rw [hd3] at HDO
    clear hd3 hf3 KA KH
    go_wp2_with fail
    generalize ((v2.alloc (.cells #[.slice q2.ca n2.coils.length q2.cc, .slice q2.ia n2.inputs.length q2.ic, .slice q2.ha n2.holding.length q2.hc, .slice q2.wa n2.words.length q2.wc] 28)).alloc (.cells #[b8 r2.fn, b8 r2.ex, .slice b2 r2.bits.length e2, .slice a2 r2.words.length c2, b16 r2.at_, b16 r2.many] 36)) = Z3 at *
    refine HDO.out.mono ?_
    rintro e v3 ⟨q3, a3, c3, b3, e3, rfl, hme3, hrp3, hb⟩
    have KV2 := Lib.hid (And.intro (KV.out.1.on hb) (KV.out.2.on hb))
    have HM2 := Lib.hid (And.intro (HMV.out.1.on hb) (HMV.out.2.below hb))
    clear HMV
    clear KV HDO hb s0 s1 s2 s3 g0 g1 g2 g3
    have hx1 : Below v3.heap.size v3 ((v3.alloc (.cells #[.slice q3.ca n3.coils.length q3.cc, .slice q3.ia n3.inputs.length q3.ic, .slice q3.ha n3.holding.length q3.hc, .slice q3.wa n3.words.length q3.wc] 28)).alloc (.cells #[b8 r3.fn, b8 r3.ex, .slice b3 r3.bits.length e3, .slice a3 r3.words.length c3, b16 r3.at_, b16 r3.many] 36)) := below_two v3 _ _
    have hx2 : ((v3.alloc (.cells #[.slice q3.ca n3.coils.length q3.cc, .slice q3.ia n3.inputs.length q3.ic, .slice q3.ha n3.holding.length q3.hc, .slice q3.wa n3.words.length q3.wc] 28)).alloc (.cells #[b8 r3.fn, b8 r3.ex, .slice b3 r3.bits.length e3, .slice a3 r3.words.length c3, b16 r3.at_, b16 r3.many] 36)).heap[v3.heap.size]? = some (.cells #[.slice q3.ca n3.coils.length q3.cc, .slice q3.ia n3.inputs.length q3.ic, .slice q3.ha n3.holding.length q3.hc, .slice q3.wa n3.words.length q3.wc] 28 (0, 0)) := (Below.heap_alloc _ _ _ (by simp)).trans (heap_alloc_new v3 _)
    have hx3 := at_one v3 (.cells #[.slice q3.ca n3.coils.length q3.cc, .slice q3.ia n3.inputs.length q3.ic, .slice q3.ha n3.holding.length q3.hc, .slice q3.wa n3.words.length q3.wc] 28) (.cells #[b8 r3.fn, b8 r3.ex, .slice b3 r3.bits.length e3, .slice a3 r3.words.length c3, b16 r3.at_, b16 r3.many] 36)
    have KA := Lib.hid (KV2.out.1.on hx1)
    have KH := Lib.hid (((KV2.out.2.on hx1).cons hx2).cons hx3)
    have HM1 : Hid (MeAt ((v3.alloc (.cells #[.slice q3.ca n3.coils.length q3.cc, .slice q3.ia n3.inputs.length q3.ic, .slice q3.ha n3.holding.length q3.hc, .slice q3.wa n3.words.length q3.wc] 28)).alloc (.cells #[b8 r3.fn, b8 r3.ex, .slice b3 r3.bits.length e3, .slice a3 r3.words.length c3, b16 r3.at_, b16 r3.many] 36)) ((v3.alloc (.cells #[.slice q3.ca n3.coils.length q3.cc, .slice q3.ia n3.inputs.length q3.ic, .slice q3.ha n3.holding.length q3.hc, .slice q3.wa n3.words.length q3.wc] 28)).alloc (.cells #[b8 r3.fn, b8 r3.ex, .slice b3 r3.bits.length e3, .slice a3 r3.words.length c3, b16 r3.at_, b16 r3.many] 36)).heap.size n1 q1 ∧ RepAt ((v3.alloc (.cells #[.slice q3.ca n3.coils.length q3.cc, .slice q3.ia n3.inputs.length q3.ic, .slice q3.ha n3.holding.length q3.hc, .slice q3.wa n3.words.length q3.wc] 28)).alloc (.cells #[b8 r3.fn, b8 r3.ex, .slice b3 r3.bits.length e3, .slice a3 r3.words.length c3, b16 r3.at_, b16 r3.many] 36)) ((v3.alloc (.cells #[.slice q3.ca n3.coils.length q3.cc, .slice q3.ia n3.inputs.length q3.ic, .slice q3.ha n3.holding.length q3.hc, .slice q3.wa n3.words.length q3.wc] 28)).alloc (.cells #[b8 r3.fn, b8 r3.ex, .slice b3 r3.bits.length e3, .slice a3 r3.words.length c3, b16 r3.at_, b16 r3.many] 36)).heap.size r1 a1 c1 b1 e1) := Lib.hid ⟨HM2.out.1.on hx1, HM2.out.2.below hx1⟩
    clear HM2
    clear hme3 hrp3 hx1 hx2 hx3 KV2
    obtain ⟨n4, r4, hd4, hf4⟩ : ∃ n r, doN sX mX ⟨1, 0, 10, 0, [], []⟩ = (n, r) ∧ (r.bits.length = 16) := ⟨_, _, rfl, mex4⟩
    have HF4 := Lib.hid hf4
    have s0 : ((v3.alloc (.cells #[.slice q3.ca n3.coils.length q3.cc, .slice q3.ia n3.inputs.length q3.ic, .slice q3.ha n3.holding.length q3.hc, .slice q3.wa n3.words.length q3.wc] 28)).alloc (.cells #[b8 r3.fn, b8 r3.ex, .slice b3 r3.bits.length e3, .slice a3 r3.words.length c3, b16 r3.at_, b16 r3.many] 36)).cell? ⟨w.heap.size + 1 + 1, 0, none⟩ = some (.slice (some ⟨w.heap.size, 0, none⟩) 1 1) := cell_of_row _ _ _ _ _ _ KA.out.t1
    have s1 : ((v3.alloc (.cells #[.slice q3.ca n3.coils.length q3.cc, .slice q3.ia n3.inputs.length q3.ic, .slice q3.ha n3.holding.length q3.hc, .slice q3.wa n3.words.length q3.wc] 28)).alloc (.cells #[b8 r3.fn, b8 r3.ex, .slice b3 r3.bits.length e3, .slice a3 r3.words.length c3, b16 r3.at_, b16 r3.many] 36)).cell? ⟨w.heap.size + 1 + 1, 1, none⟩ = some (.slice none 0 0) := cell_of_row _ _ _ _ _ _ KA.out.t1
    have s2 : ((v3.alloc (.cells #[.slice q3.ca n3.coils.length q3.cc, .slice q3.ia n3.inputs.length q3.ic, .slice q3.ha n3.holding.length q3.hc, .slice q3.wa n3.words.length q3.wc] 28)).alloc (.cells #[b8 r3.fn, b8 r3.ex, .slice b3 r3.bits.length e3, .slice a3 r3.words.length c3, b16 r3.at_, b16 r3.many] 36)).cell? ⟨w.heap.size + 1 + 1, 2, none⟩ = some (.slice (some ⟨w.heap.size + 1, 0, none⟩) 2 2) := cell_of_row _ _ _ _ _ _ KA.out.t1
    have s3 : ((v3.alloc (.cells #[.slice q3.ca n3.coils.length q3.cc, .slice q3.ia n3.inputs.length q3.ic, .slice q3.ha n3.holding.length q3.hc, .slice q3.wa n3.words.length q3.wc] 28)).alloc (.cells #[b8 r3.fn, b8 r3.ex, .slice b3 r3.bits.length e3, .slice a3 r3.words.length c3, b16 r3.at_, b16 r3.many] 36)).cell? ⟨w.heap.size + 1 + 1, 3, none⟩ = some (.slice none 0 0) := cell_of_row _ _ _ _ _ _ KA.out.t1
    have g0 : ((v3.alloc (.cells #[.slice q3.ca n3.coils.length q3.cc, .slice q3.ia n3.inputs.length q3.ic, .slice q3.ha n3.holding.length q3.hc, .slice q3.wa n3.words.length q3.wc] 28)).alloc (.cells #[b8 r3.fn, b8 r3.ex, .slice b3 r3.bits.length e3, .slice a3 r3.words.length c3, b16 r3.at_, b16 r3.many] 36)).cell? ⟨W1.heap.size + 1, 0, none⟩ = some (.slice (some ⟨W1.heap.size + 1 + 1, 0, none⟩) 10 10) := cell_of_row _ _ _ _ _ _ KA.out.t2
    have g1 : ((v3.alloc (.cells #[.slice q3.ca n3.coils.length q3.cc, .slice q3.ia n3.inputs.length q3.ic, .slice q3.ha n3.holding.length q3.hc, .slice q3.wa n3.words.length q3.wc] 28)).alloc (.cells #[b8 r3.fn, b8 r3.ex, .slice b3 r3.bits.length e3, .slice a3 r3.words.length c3, b16 r3.at_, b16 r3.many] 36)).cell? ⟨W1.heap.size + 1, 1, none⟩ = some (.slice none 0 0) := cell_of_row _ _ _ _ _ _ KA.out.t2
    have g2 : ((v3.alloc (.cells #[.slice q3.ca n3.coils.length q3.cc, .slice q3.ia n3.inputs.length q3.ic, .slice q3.ha n3.holding.length q3.hc, .slice q3.wa n3.words.length q3.wc] 28)).alloc (.cells #[b8 r3.fn, b8 r3.ex, .slice b3 r3.bits.length e3, .slice a3 r3.words.length c3, b16 r3.at_, b16 r3.many] 36)).cell? ⟨W1.heap.size + 1, 2, none⟩ = some (.slice (some ⟨W1.heap.size, 0, none⟩) 8 8) := cell_of_row _ _ _ _ _ _ KA.out.t2
    have g3 : ((v3.alloc (.cells #[.slice q3.ca n3.coils.length q3.cc, .slice q3.ia n3.inputs.length q3.ic, .slice q3.ha n3.holding.length q3.hc, .slice q3.wa n3.words.length q3.wc] 28)).alloc (.cells #[b8 r3.fn, b8 r3.ex, .slice b3 r3.bits.length e3, .slice a3 r3.words.length c3, b16 r3.at_, b16 r3.many] 36)).cell? ⟨W1.heap.size + 1, 3, none⟩ = some (.slice none 0 0) := cell_of_row _ _ _ _ _ _ KA.out.t2
    have KV := Lib.hid (And.intro KA.out KH.out)
    have HDO := Lib.hid (Do_at sX (pX w.heap.size) mX ⟨some ⟨W1.heap.size + 1 + 1, 0, none⟩, 10, none, 0, some ⟨W1.heap.size, 0, none⟩, 8, none, 0⟩ ⟨1, 0, 10, 0, [], []⟩ none 0 none 0 ((v3.alloc (.cells #[.slice q3.ca n3.coils.length q3.cc, .slice q3.ia n3.inputs.length q3.ic, .slice q3.ha n3.holding.length q3.hc, .slice q3.wa n3.words.length q3.wc] 28)).alloc (.cells #[b8 r3.fn, b8 r3.ex, .slice b3 r3.bits.length e3, .slice a3 r3.words.length c3, b16 r3.at_, b16 r3.many] 36)) KV.out.1.sp KV.out.1.me mX_small ⟨Sl.none_, Sl.none_⟩ (by decide) (by decide))
    have HMV := HM1
    clear HM1
    rw [hd4] at HDO
    clear hd4 hf4 KA KH
    go_wp2_with fail
    generalize ((v3.alloc (.cells #[.slice q3.ca n3.coils.length q3.cc, .slice q3.ia n3.inputs.length q3.ic, .slice q3.ha n3.holding.length q3.hc, .slice q3.wa n3.words.length q3.wc] 28)).alloc (.cells #[b8 r3.fn, b8 r3.ex, .slice b3 r3.bits.length e3, .slice a3 r3.words.length c3, b16 r3.at_, b16 r3.many] 36)) = Z4 at *
    refine HDO.out.mono ?_
    rintro e v4 ⟨q4, a4, c4, b4, e4, rfl, hme4, hrp4, hb⟩
    have KV2 := Lib.hid (And.intro (KV.out.1.on hb) (KV.out.2.on hb))
    have HM2 := Lib.hid (And.intro (HMV.out.1.on hb) (HMV.out.2.below hb))
    clear HMV
    clear KV HDO hb s0 s1 s2 s3 g0 g1 g2 g3
    have hx1 : Below v4.heap.size v4 ((v4.alloc (.cells #[.slice q4.ca n4.coils.length q4.cc, .slice q4.ia n4.inputs.length q4.ic, .slice q4.ha n4.holding.length q4.hc, .slice q4.wa n4.words.length q4.wc] 28)).alloc (.cells #[b8 r4.fn, b8 r4.ex, .slice b4 r4.bits.length e4, .slice a4 r4.words.length c4, b16 r4.at_, b16 r4.many] 36)) := below_two v4 _ _
    have hx2 : ((v4.alloc (.cells #[.slice q4.ca n4.coils.length q4.cc, .slice q4.ia n4.inputs.length q4.ic, .slice q4.ha n4.holding.length q4.hc, .slice q4.wa n4.words.length q4.wc] 28)).alloc (.cells #[b8 r4.fn, b8 r4.ex, .slice b4 r4.bits.length e4, .slice a4 r4.words.length c4, b16 r4.at_, b16 r4.many] 36)).heap[v4.heap.size]? = some (.cells #[.slice q4.ca n4.coils.length q4.cc, .slice q4.ia n4.inputs.length q4.ic, .slice q4.ha n4.holding.length q4.hc, .slice q4.wa n4.words.length q4.wc] 28 (0, 0)) := (Below.heap_alloc _ _ _ (by simp)).trans (heap_alloc_new v4 _)
    have hx3 := at_one v4 (.cells #[.slice q4.ca n4.coils.length q4.cc, .slice q4.ia n4.inputs.length q4.ic, .slice q4.ha n4.holding.length q4.hc, .slice q4.wa n4.words.length q4.wc] 28) (.cells #[b8 r4.fn, b8 r4.ex, .slice b4 r4.bits.length e4, .slice a4 r4.words.length c4, b16 r4.at_, b16 r4.many] 36)
    have KA := Lib.hid (KV2.out.1.on hx1)
    have KH := Lib.hid (((KV2.out.2.on hx1).cons hx2).cons hx3)
    have HM1 : Hid (MeAt ((v4.alloc (.cells #[.slice q4.ca n4.coils.length q4.cc, .slice q4.ia n4.inputs.length q4.ic, .slice q4.ha n4.holding.length q4.hc, .slice q4.wa n4.words.length q4.wc] 28)).alloc (.cells #[b8 r4.fn, b8 r4.ex, .slice b4 r4.bits.length e4, .slice a4 r4.words.length c4, b16 r4.at_, b16 r4.many] 36)) ((v4.alloc (.cells #[.slice q4.ca n4.coils.length q4.cc, .slice q4.ia n4.inputs.length q4.ic, .slice q4.ha n4.holding.length q4.hc, .slice q4.wa n4.words.length q4.wc] 28)).alloc (.cells #[b8 r4.fn, b8 r4.ex, .slice b4 r4.bits.length e4, .slice a4 r4.words.length c4, b16 r4.at_, b16 r4.many] 36)).heap.size n1 q1 ∧ RepAt ((v4.alloc (.cells #[.slice q4.ca n4.coils.length q4.cc, .slice q4.ia n4.inputs.length q4.ic, .slice q4.ha n4.holding.length q4.hc, .slice q4.wa n4.words.length q4.wc] 28)).alloc (.cells #[b8 r4.fn, b8 r4.ex, .slice b4 r4.bits.length e4, .slice a4 r4.words.length c4, b16 r4.at_, b16 r4.many] 36)) ((v4.alloc (.cells #[.slice q4.ca n4.coils.length q4.cc, .slice q4.ia n4.inputs.length q4.ic, .slice q4.ha n4.holding.length q4.hc, .slice q4.wa n4.words.length q4.wc] 28)).alloc (.cells #[b8 r4.fn, b8 r4.ex, .slice b4 r4.bits.length e4, .slice a4 r4.words.length c4, b16 r4.at_, b16 r4.many] 36)).heap.size r1 a1 c1 b1 e1) := Lib.hid ⟨HM2.out.1.on hx1, HM2.out.2.below hx1⟩
    clear HM2
    clear hme4 hrp4 hx1 hx2 hx3 KV2
    have s0 : ((v4.alloc (.cells #[.slice q4.ca n4.coils.length q4.cc, .slice q4.ia n4.inputs.length q4.ic, .slice q4.ha n4.holding.length q4.hc, .slice q4.wa n4.words.length q4.wc] 28)).alloc (.cells #[b8 r4.fn, b8 r4.ex, .slice b4 r4.bits.length e4, .slice a4 r4.words.length c4, b16 r4.at_, b16 r4.many] 36)).cell? ⟨w.heap.size + 1 + 1, 0, none⟩ = some (.slice (some ⟨w.heap.size, 0, none⟩) 1 1) := cell_of_row _ _ _ _ _ _ KA.out.t1
    have s1 : ((v4.alloc (.cells #[.slice q4.ca n4.coils.length q4.cc, .slice q4.ia n4.inputs.length q4.ic, .slice q4.ha n4.holding.length q4.hc, .slice q4.wa n4.words.length q4.wc] 28)).alloc (.cells #[b8 r4.fn, b8 r4.ex, .slice b4 r4.bits.length e4, .slice a4 r4.words.length c4, b16 r4.at_, b16 r4.many] 36)).cell? ⟨w.heap.size + 1 + 1, 1, none⟩ = some (.slice none 0 0) := cell_of_row _ _ _ _ _ _ KA.out.t1
    have s2 : ((v4.alloc (.cells #[.slice q4.ca n4.coils.length q4.cc, .slice q4.ia n4.inputs.length q4.ic, .slice q4.ha n4.holding.length q4.hc, .slice q4.wa n4.words.length q4.wc] 28)).alloc (.cells #[b8 r4.fn, b8 r4.ex, .slice b4 r4.bits.length e4, .slice a4 r4.words.length c4, b16 r4.at_, b16 r4.many] 36)).cell? ⟨w.heap.size + 1 + 1, 2, none⟩ = some (.slice (some ⟨w.heap.size + 1, 0, none⟩) 2 2) := cell_of_row _ _ _ _ _ _ KA.out.t1
    have s3 : ((v4.alloc (.cells #[.slice q4.ca n4.coils.length q4.cc, .slice q4.ia n4.inputs.length q4.ic, .slice q4.ha n4.holding.length q4.hc, .slice q4.wa n4.words.length q4.wc] 28)).alloc (.cells #[b8 r4.fn, b8 r4.ex, .slice b4 r4.bits.length e4, .slice a4 r4.words.length c4, b16 r4.at_, b16 r4.many] 36)).cell? ⟨w.heap.size + 1 + 1, 3, none⟩ = some (.slice none 0 0) := cell_of_row _ _ _ _ _ _ KA.out.t1
    have g0 : ((v4.alloc (.cells #[.slice q4.ca n4.coils.length q4.cc, .slice q4.ia n4.inputs.length q4.ic, .slice q4.ha n4.holding.length q4.hc, .slice q4.wa n4.words.length q4.wc] 28)).alloc (.cells #[b8 r4.fn, b8 r4.ex, .slice b4 r4.bits.length e4, .slice a4 r4.words.length c4, b16 r4.at_, b16 r4.many] 36)).cell? ⟨W1.heap.size + 1, 0, none⟩ = some (.slice (some ⟨W1.heap.size + 1 + 1, 0, none⟩) 10 10) := cell_of_row _ _ _ _ _ _ KA.out.t2
    have g1 : ((v4.alloc (.cells #[.slice q4.ca n4.coils.length q4.cc, .slice q4.ia n4.inputs.length q4.ic, .slice q4.ha n4.holding.length q4.hc, .slice q4.wa n4.words.length q4.wc] 28)).alloc (.cells #[b8 r4.fn, b8 r4.ex, .slice b4 r4.bits.length e4, .slice a4 r4.words.length c4, b16 r4.at_, b16 r4.many] 36)).cell? ⟨W1.heap.size + 1, 1, none⟩ = some (.slice none 0 0) := cell_of_row _ _ _ _ _ _ KA.out.t2
    have g2 : ((v4.alloc (.cells #[.slice q4.ca n4.coils.length q4.cc, .slice q4.ia n4.inputs.length q4.ic, .slice q4.ha n4.holding.length q4.hc, .slice q4.wa n4.words.length q4.wc] 28)).alloc (.cells #[b8 r4.fn, b8 r4.ex, .slice b4 r4.bits.length e4, .slice a4 r4.words.length c4, b16 r4.at_, b16 r4.many] 36)).cell? ⟨W1.heap.size + 1, 2, none⟩ = some (.slice (some ⟨W1.heap.size, 0, none⟩) 8 8) := cell_of_row _ _ _ _ _ _ KA.out.t2
    have g3 : ((v4.alloc (.cells #[.slice q4.ca n4.coils.length q4.cc, .slice q4.ia n4.inputs.length q4.ic, .slice q4.ha n4.holding.length q4.hc, .slice q4.wa n4.words.length q4.wc] 28)).alloc (.cells #[b8 r4.fn, b8 r4.ex, .slice b4 r4.bits.length e4, .slice a4 r4.words.length c4, b16 r4.at_, b16 r4.many] 36)).cell? ⟨W1.heap.size + 1, 3, none⟩ = some (.slice none 0 0) := cell_of_row _ _ _ _ _ _ KA.out.t2
    have HRI := Lib.hid (MRight_any sX mX (pX w.heap.size) ⟨some ⟨W1.heap.size + 1 + 1, 0, none⟩, 10, none, 0, some ⟨W1.heap.size, 0, none⟩, 8, none, 0⟩ ((v4.alloc (.cells #[.slice q4.ca n4.coils.length q4.cc, .slice q4.ia n4.inputs.length q4.ic, .slice q4.ha n4.holding.length q4.hc, .slice q4.wa n4.words.length q4.wc] 28)).alloc (.cells #[b8 r4.fn, b8 r4.ex, .slice b4 r4.bits.length e4, .slice a4 r4.words.length c4, b16 r4.at_, b16 r4.many] 36)) KA.out.sp KA.out.me mX_small)
    rw [mex5] at HRI
    go_wp2_with fail
    generalize ((v4.alloc (.cells #[.slice q4.ca n4.coils.length q4.cc, .slice q4.ia n4.inputs.length q4.ic, .slice q4.ha n4.holding.length q4.hc, .slice q4.wa n4.words.length q4.wc] 28)).alloc (.cells #[b8 r4.fn, b8 r4.ex, .slice b4 r4.bits.length e4, .slice a4 r4.words.length c4, b16 r4.at_, b16 r4.many] 36)) = Z5 at *
    refine HRI.out.mono ?_
    rintro e z1 ⟨rfl, hb⟩
    have KZ := Lib.hid (And.intro (KA.out.below.trans (hb.mono KA.out.below.size)) (And.intro (KH.out.on hb) (And.intro (HM1.out.1.on hb) (HM1.out.2.below hb))))
    clear hb KA KH HM1 HRI s0 s1 s2 s3 g0 g1 g2 g3
    obtain ⟨hl, hi, hr⟩ := HF1.out
    subst hr
    obtain ⟨xb7, xo7, x7, hq7, -, hx7, hc7⟩ := KZ.out.2.2.1.holding.at_ (k := 7) (by omega)
    have h7 : x7 = 4 := by rw [hi] at hx7; injection hx7 with hx7; exact hx7.symm
    subst h7
    have u2 : z1.cell? ⟨v1.heap.size, 2, none⟩ = some (.slice q1.ha n1.holding.length q1.hc) := cell_of_row _ _ _ _ _ _ (KZ.out.2.1 (v1.heap.size, #[.slice q1.ca n1.coils.length q1.cc, .slice q1.ia n1.inputs.length q1.ic, .slice q1.ha n1.holding.length q1.hc, .slice q1.wa n1.words.length q1.wc], 28) (by simp))
    have y0 : z1.cell? ⟨v1.heap.size + 1, 0, none⟩ = some (b8 16) := cell_of_row _ _ _ _ _ _ (KZ.out.2.1 (v1.heap.size + 1, #[b8 16, b8 0, .slice b1 0 e1, .slice a1 0 c1, b16 4, b16 4], 36) (by simp))
    have y1 : z1.cell? ⟨v1.heap.size + 1, 1, none⟩ = some (b8 0) := cell_of_row _ _ _ _ _ _ (KZ.out.2.1 (v1.heap.size + 1, #[b8 16, b8 0, .slice b1 0 e1, .slice a1 0 c1, b16 4, b16 4], 36) (by simp))
    have y2 : z1.cell? ⟨v1.heap.size + 1, 2, none⟩ = some (.slice b1 0 e1) := cell_of_row _ _ _ _ _ _ (KZ.out.2.1 (v1.heap.size + 1, #[b8 16, b8 0, .slice b1 0 e1, .slice a1 0 c1, b16 4, b16 4], 36) (by simp))
    have y3 : z1.cell? ⟨v1.heap.size + 1, 3, none⟩ = some (.slice a1 0 c1) := cell_of_row _ _ _ _ _ _ (KZ.out.2.1 (v1.heap.size + 1, #[b8 16, b8 0, .slice b1 0 e1, .slice a1 0 c1, b16 4, b16 4], 36) (by simp))
    have y4 : z1.cell? ⟨v1.heap.size + 1, 4, none⟩ = some (b16 4) := cell_of_row _ _ _ _ _ _ (KZ.out.2.1 (v1.heap.size + 1, #[b8 16, b8 0, .slice b1 0 e1, .slice a1 0 c1, b16 4, b16 4], 36) (by simp))
    have y5 : z1.cell? ⟨v1.heap.size + 1, 5, none⟩ = some (b16 4) := cell_of_row _ _ _ _ _ _ (KZ.out.2.1 (v1.heap.size + 1, #[b8 16, b8 0, .slice b1 0 e1, .slice a1 0 c1, b16 4, b16 4], 36) (by simp))
    rw [hq7, hl] at u2
    have hcm := len_le KZ.out.2.2.1.holding
    have HSM := Lib.hid (RSame_any ⟨16, 0, [], [], 4, 4⟩ ⟨16, 0, [], [], 4, 4⟩ a1 c1 b1 e1 none 0 none 0 z1 KZ.out.2.2.2 (RepAt.nil rfl rfl))
    rw [decide_eq_true rfl] at HSM
    clear hl hi hx7
    go_wp2_with fail
    refine HSM.out.mono ?_
    rintro e z2 ⟨rfl, hb⟩
    have KZ2 := Lib.hid (And.intro (KZ.out.1.trans (hb.mono KZ.out.1.size)) (KZ.out.2.1.on hb))
    clear hb KZ HSM u2 y0 y1 y2 y3 y4 y5 hc7
    have p2 : z2.cell? ⟨v2.heap.size + 1, 1, none⟩ = some (b8 r2.ex) := cell_of_row _ _ _ _ _ _ (KZ2.out.2 (v2.heap.size + 1, #[b8 r2.fn, b8 r2.ex, .slice b2 r2.bits.length e2, .slice a2 r2.words.length c2, b16 r2.at_, b16 r2.many], 36) (by simp))
    rw [HF2.out] at p2
    have p3 : z2.cell? ⟨v3.heap.size + 1, 1, none⟩ = some (b8 r3.ex) := cell_of_row _ _ _ _ _ _ (KZ2.out.2 (v3.heap.size + 1, #[b8 r3.fn, b8 r3.ex, .slice b3 r3.bits.length e3, .slice a3 r3.words.length c3, b16 r3.at_, b16 r3.many], 36) (by simp))
    rw [HF3.out] at p3
    have p4 : z2.cell? ⟨v4.heap.size + 1, 2, none⟩ = some (.slice b4 r4.bits.length e4) := cell_of_row _ _ _ _ _ _ (KZ2.out.2 (v4.heap.size + 1, #[b8 r4.fn, b8 r4.ex, .slice b4 r4.bits.length e4, .slice a4 r4.words.length c4, b16 r4.at_, b16 r4.many], 36) (by simp))
    rw [HF4.out] at p4
    go_wp2_with fail
    go_ret
    exact Says.mk KZ2.out.1
  · have HQ := Lib.hid (HMK.out (((W1.alloc (.cells #[.slice (some ⟨W1.heap.size + 1, 0, none⟩) 10 10, .slice none 0 0, .slice (some ⟨W1.heap.size + 1 + 1, 0, none⟩) 8 8, .slice none 0 0] 28)).alloc (.cells #[.bool false, .bool false, .bool false, .bool false, .bool false, .bool false, .bool false, .bool false, .bool false, .bool false] 4)).alloc (.cells #[.int .u16 0, .int .u16 0, .int .u16 0, .int .u16 0, .int .u16 0, .int .u16 0, .int .u16 0, .int .u16 0] 29)).drew (three_rows W1 _ _ _).1 (W1.heap.size + 1) (W1.heap.size + 1 + 1) (W1.heap.size) ((three_rows W1 (.cells #[.slice (some ⟨W1.heap.size + 1, 0, none⟩) 10 10, .slice none 0 0, .slice (some ⟨W1.heap.size + 1 + 1, 0, none⟩) 8 8, .slice none 0 0] 28) (.cells #[.bool false, .bool false, .bool false, .bool false, .bool false, .bool false, .bool false, .bool false, .bool false, .bool false] 4) (.cells #[.int .u16 0, .int .u16 0, .int .u16 0, .int .u16 0, .int .u16 0, .int .u16 0, .int .u16 0, .int .u16 0] 29)).2.2.1) ((three_rows W1 (.cells #[.slice (some ⟨W1.heap.size + 1, 0, none⟩) 10 10, .slice none 0 0, .slice (some ⟨W1.heap.size + 1 + 1, 0, none⟩) 8 8, .slice none 0 0] 28) (.cells #[.bool false, .bool false, .bool false, .bool false, .bool false, .bool false, .bool false, .bool false, .bool false, .bool false] 4) (.cells #[.int .u16 0, .int .u16 0, .int .u16 0, .int .u16 0, .int .u16 0, .int .u16 0, .int .u16 0, .int .u16 0] 29)).2.2.2) ((three_rows W1 (.cells #[.slice (some ⟨W1.heap.size + 1, 0, none⟩) 10 10, .slice none 0 0, .slice (some ⟨W1.heap.size + 1 + 1, 0, none⟩) 8 8, .slice none 0 0] 28) (.cells #[.bool false, .bool false, .bool false, .bool false, .bool false, .bool false, .bool false, .bool false, .bool false, .bool false] 4) (.cells #[.int .u16 0, .int .u16 0, .int .u16 0, .int .u16 0, .int .u16 0, .int .u16 0, .int .u16 0, .int .u16 0] 29)).2.1))
    clear hmB hmW
    generalize (((W1.alloc (.cells #[.slice (some ⟨W1.heap.size + 1, 0, none⟩) 10 10, .slice none 0 0, .slice (some ⟨W1.heap.size + 1 + 1, 0, none⟩) 8 8, .slice none 0 0] 28)).alloc (.cells #[.bool false, .bool false, .bool false, .bool false, .bool false, .bool false, .bool false, .bool false, .bool false, .bool false] 4)).alloc (.cells #[.int .u16 0, .int .u16 0, .int .u16 0, .int .u16 0, .int .u16 0, .int .u16 0, .int .u16 0, .int .u16 0] 29)).drew = WE at *
    have KA := HQ
    have KH : Hid (Has WE []) := Lib.hid fun x hx => by cases hx
    clear HQ HMK
    obtain ⟨n1, r1, hd1, hf1⟩ : ∃ n r, doN sX mX ⟨16, 4, 4, 0, [1, 2, 3, 4], []⟩ = (n, r) ∧ (n.holding.length = 8 ∧ n.holding[7]? = some 4 ∧ r = ⟨16, 0, [], [], 4, 4⟩) := ⟨_, _, rfl, mex1⟩
    have HF1 := Lib.hid hf1
    have s0 : WE.cell? ⟨w.heap.size + 1 + 1, 0, none⟩ = some (.slice (some ⟨w.heap.size, 0, none⟩) 1 1) := cell_of_row _ _ _ _ _ _ KA.out.t1
    have s1 : WE.cell? ⟨w.heap.size + 1 + 1, 1, none⟩ = some (.slice none 0 0) := cell_of_row _ _ _ _ _ _ KA.out.t1
    have s2 : WE.cell? ⟨w.heap.size + 1 + 1, 2, none⟩ = some (.slice (some ⟨w.heap.size + 1, 0, none⟩) 2 2) := cell_of_row _ _ _ _ _ _ KA.out.t1
    have s3 : WE.cell? ⟨w.heap.size + 1 + 1, 3, none⟩ = some (.slice none 0 0) := cell_of_row _ _ _ _ _ _ KA.out.t1
    have g0 : WE.cell? ⟨W1.heap.size, 0, none⟩ = some (.slice (some ⟨W1.heap.size + 1, 0, none⟩) 10 10) := cell_of_row _ _ _ _ _ _ KA.out.t2
    have g1 : WE.cell? ⟨W1.heap.size, 1, none⟩ = some (.slice none 0 0) := cell_of_row _ _ _ _ _ _ KA.out.t2
    have g2 : WE.cell? ⟨W1.heap.size, 2, none⟩ = some (.slice (some ⟨W1.heap.size + 1 + 1, 0, none⟩) 8 8) := cell_of_row _ _ _ _ _ _ KA.out.t2
    have g3 : WE.cell? ⟨W1.heap.size, 3, none⟩ = some (.slice none 0 0) := cell_of_row _ _ _ _ _ _ KA.out.t2
    have hV := below_al WE (.cells #[.int .u16 1, .int .u16 2, .int .u16 3, .int .u16 4] 29)
    have KV := Lib.hid (And.intro (KA.out.on hV) (KH.out.on hV))
    have hA : (WE.alloc (.cells #[.int .u16 1, .int .u16 2, .int .u16 3, .int .u16 4] 29)).heap[WE.heap.size]? = some (.cells #[.int .u16 1, .int .u16 2, .int .u16 3, .int .u16 4] 29 (0, 0)) := heap_alloc_new WE _
    have HDO := Lib.hid (Do_at sX (pX w.heap.size) mX ⟨some ⟨W1.heap.size + 1, 0, none⟩, 10, none, 0, some ⟨W1.heap.size + 1 + 1, 0, none⟩, 8, none, 0⟩ ⟨16, 4, 4, 0, [1, 2, 3, 4], []⟩ (some ⟨WE.heap.size, 0, none⟩) 4 none 0 (WE.alloc (.cells #[.int .u16 1, .int .u16 2, .int .u16 3, .int .u16 4] 29)) KV.out.1.sp KV.out.1.me mX_small ⟨row_sl hA _ 4 rfl rfl (by omega), Sl.none_⟩ (by decide) (by decide))
    clear hA
    clear hV
    rw [hd1] at HDO
    clear hd1 hf1 KA KH
    go_wp2_with fail
    refine HDO.out.mono ?_
    rintro e v1 ⟨q1, a1, c1, b1, e1, rfl, hme1, hrp1, hb⟩
    have KV2 := Lib.hid (And.intro (KV.out.1.on hb) (KV.out.2.on hb))
    clear KV HDO hb s0 s1 s2 s3 g0 g1 g2 g3
    have hx1 : Below v1.heap.size v1 ((v1.alloc (.cells #[.slice q1.ca n1.coils.length q1.cc, .slice q1.ia n1.inputs.length q1.ic, .slice q1.ha n1.holding.length q1.hc, .slice q1.wa n1.words.length q1.wc] 28)).alloc (.cells #[b8 r1.fn, b8 r1.ex, .slice b1 r1.bits.length e1, .slice a1 r1.words.length c1, b16 r1.at_, b16 r1.many] 36)) := below_two v1 _ _
    have hx2 : ((v1.alloc (.cells #[.slice q1.ca n1.coils.length q1.cc, .slice q1.ia n1.inputs.length q1.ic, .slice q1.ha n1.holding.length q1.hc, .slice q1.wa n1.words.length q1.wc] 28)).alloc (.cells #[b8 r1.fn, b8 r1.ex, .slice b1 r1.bits.length e1, .slice a1 r1.words.length c1, b16 r1.at_, b16 r1.many] 36)).heap[v1.heap.size]? = some (.cells #[.slice q1.ca n1.coils.length q1.cc, .slice q1.ia n1.inputs.length q1.ic, .slice q1.ha n1.holding.length q1.hc, .slice q1.wa n1.words.length q1.wc] 28 (0, 0)) := (Below.heap_alloc _ _ _ (by simp)).trans (heap_alloc_new v1 _)
    have hx3 := at_one v1 (.cells #[.slice q1.ca n1.coils.length q1.cc, .slice q1.ia n1.inputs.length q1.ic, .slice q1.ha n1.holding.length q1.hc, .slice q1.wa n1.words.length q1.wc] 28) (.cells #[b8 r1.fn, b8 r1.ex, .slice b1 r1.bits.length e1, .slice a1 r1.words.length c1, b16 r1.at_, b16 r1.many] 36)
    have KA := Lib.hid (KV2.out.1.on hx1)
    have KH := Lib.hid (((KV2.out.2.on hx1).cons hx2).cons hx3)
    have HM1 : Hid (MeAt ((v1.alloc (.cells #[.slice q1.ca n1.coils.length q1.cc, .slice q1.ia n1.inputs.length q1.ic, .slice q1.ha n1.holding.length q1.hc, .slice q1.wa n1.words.length q1.wc] 28)).alloc (.cells #[b8 r1.fn, b8 r1.ex, .slice b1 r1.bits.length e1, .slice a1 r1.words.length c1, b16 r1.at_, b16 r1.many] 36)) ((v1.alloc (.cells #[.slice q1.ca n1.coils.length q1.cc, .slice q1.ia n1.inputs.length q1.ic, .slice q1.ha n1.holding.length q1.hc, .slice q1.wa n1.words.length q1.wc] 28)).alloc (.cells #[b8 r1.fn, b8 r1.ex, .slice b1 r1.bits.length e1, .slice a1 r1.words.length c1, b16 r1.at_, b16 r1.many] 36)).heap.size n1 q1 ∧ RepAt ((v1.alloc (.cells #[.slice q1.ca n1.coils.length q1.cc, .slice q1.ia n1.inputs.length q1.ic, .slice q1.ha n1.holding.length q1.hc, .slice q1.wa n1.words.length q1.wc] 28)).alloc (.cells #[b8 r1.fn, b8 r1.ex, .slice b1 r1.bits.length e1, .slice a1 r1.words.length c1, b16 r1.at_, b16 r1.many] 36)) ((v1.alloc (.cells #[.slice q1.ca n1.coils.length q1.cc, .slice q1.ia n1.inputs.length q1.ic, .slice q1.ha n1.holding.length q1.hc, .slice q1.wa n1.words.length q1.wc] 28)).alloc (.cells #[b8 r1.fn, b8 r1.ex, .slice b1 r1.bits.length e1, .slice a1 r1.words.length c1, b16 r1.at_, b16 r1.many] 36)).heap.size r1 a1 c1 b1 e1) := Lib.hid ⟨hme1.on hx1, hrp1.below hx1⟩
    clear hme1 hrp1 hx1 hx2 hx3 KV2
    obtain ⟨n2, r2, hd2, hf2⟩ : ∃ n r, doN sX mX ⟨16, 4, 2, 0, [1, 2], []⟩ = (n, r) ∧ (r.ex = 2) := ⟨_, _, rfl, mex2⟩
    have HF2 := Lib.hid hf2
    have s0 : ((v1.alloc (.cells #[.slice q1.ca n1.coils.length q1.cc, .slice q1.ia n1.inputs.length q1.ic, .slice q1.ha n1.holding.length q1.hc, .slice q1.wa n1.words.length q1.wc] 28)).alloc (.cells #[b8 r1.fn, b8 r1.ex, .slice b1 r1.bits.length e1, .slice a1 r1.words.length c1, b16 r1.at_, b16 r1.many] 36)).cell? ⟨w.heap.size + 1 + 1, 0, none⟩ = some (.slice (some ⟨w.heap.size, 0, none⟩) 1 1) := cell_of_row _ _ _ _ _ _ KA.out.t1
    have s1 : ((v1.alloc (.cells #[.slice q1.ca n1.coils.length q1.cc, .slice q1.ia n1.inputs.length q1.ic, .slice q1.ha n1.holding.length q1.hc, .slice q1.wa n1.words.length q1.wc] 28)).alloc (.cells #[b8 r1.fn, b8 r1.ex, .slice b1 r1.bits.length e1, .slice a1 r1.words.length c1, b16 r1.at_, b16 r1.many] 36)).cell? ⟨w.heap.size + 1 + 1, 1, none⟩ = some (.slice none 0 0) := cell_of_row _ _ _ _ _ _ KA.out.t1
    have s2 : ((v1.alloc (.cells #[.slice q1.ca n1.coils.length q1.cc, .slice q1.ia n1.inputs.length q1.ic, .slice q1.ha n1.holding.length q1.hc, .slice q1.wa n1.words.length q1.wc] 28)).alloc (.cells #[b8 r1.fn, b8 r1.ex, .slice b1 r1.bits.length e1, .slice a1 r1.words.length c1, b16 r1.at_, b16 r1.many] 36)).cell? ⟨w.heap.size + 1 + 1, 2, none⟩ = some (.slice (some ⟨w.heap.size + 1, 0, none⟩) 2 2) := cell_of_row _ _ _ _ _ _ KA.out.t1
    have s3 : ((v1.alloc (.cells #[.slice q1.ca n1.coils.length q1.cc, .slice q1.ia n1.inputs.length q1.ic, .slice q1.ha n1.holding.length q1.hc, .slice q1.wa n1.words.length q1.wc] 28)).alloc (.cells #[b8 r1.fn, b8 r1.ex, .slice b1 r1.bits.length e1, .slice a1 r1.words.length c1, b16 r1.at_, b16 r1.many] 36)).cell? ⟨w.heap.size + 1 + 1, 3, none⟩ = some (.slice none 0 0) := cell_of_row _ _ _ _ _ _ KA.out.t1
    have g0 : ((v1.alloc (.cells #[.slice q1.ca n1.coils.length q1.cc, .slice q1.ia n1.inputs.length q1.ic, .slice q1.ha n1.holding.length q1.hc, .slice q1.wa n1.words.length q1.wc] 28)).alloc (.cells #[b8 r1.fn, b8 r1.ex, .slice b1 r1.bits.length e1, .slice a1 r1.words.length c1, b16 r1.at_, b16 r1.many] 36)).cell? ⟨W1.heap.size, 0, none⟩ = some (.slice (some ⟨W1.heap.size + 1, 0, none⟩) 10 10) := cell_of_row _ _ _ _ _ _ KA.out.t2
    have g1 : ((v1.alloc (.cells #[.slice q1.ca n1.coils.length q1.cc, .slice q1.ia n1.inputs.length q1.ic, .slice q1.ha n1.holding.length q1.hc, .slice q1.wa n1.words.length q1.wc] 28)).alloc (.cells #[b8 r1.fn, b8 r1.ex, .slice b1 r1.bits.length e1, .slice a1 r1.words.length c1, b16 r1.at_, b16 r1.many] 36)).cell? ⟨W1.heap.size, 1, none⟩ = some (.slice none 0 0) := cell_of_row _ _ _ _ _ _ KA.out.t2
    have g2 : ((v1.alloc (.cells #[.slice q1.ca n1.coils.length q1.cc, .slice q1.ia n1.inputs.length q1.ic, .slice q1.ha n1.holding.length q1.hc, .slice q1.wa n1.words.length q1.wc] 28)).alloc (.cells #[b8 r1.fn, b8 r1.ex, .slice b1 r1.bits.length e1, .slice a1 r1.words.length c1, b16 r1.at_, b16 r1.many] 36)).cell? ⟨W1.heap.size, 2, none⟩ = some (.slice (some ⟨W1.heap.size + 1 + 1, 0, none⟩) 8 8) := cell_of_row _ _ _ _ _ _ KA.out.t2
    have g3 : ((v1.alloc (.cells #[.slice q1.ca n1.coils.length q1.cc, .slice q1.ia n1.inputs.length q1.ic, .slice q1.ha n1.holding.length q1.hc, .slice q1.wa n1.words.length q1.wc] 28)).alloc (.cells #[b8 r1.fn, b8 r1.ex, .slice b1 r1.bits.length e1, .slice a1 r1.words.length c1, b16 r1.at_, b16 r1.many] 36)).cell? ⟨W1.heap.size, 3, none⟩ = some (.slice none 0 0) := cell_of_row _ _ _ _ _ _ KA.out.t2
    have hV := below_al ((v1.alloc (.cells #[.slice q1.ca n1.coils.length q1.cc, .slice q1.ia n1.inputs.length q1.ic, .slice q1.ha n1.holding.length q1.hc, .slice q1.wa n1.words.length q1.wc] 28)).alloc (.cells #[b8 r1.fn, b8 r1.ex, .slice b1 r1.bits.length e1, .slice a1 r1.words.length c1, b16 r1.at_, b16 r1.many] 36)) (.cells #[.int .u16 1, .int .u16 2] 29)
    have KV := Lib.hid (And.intro (KA.out.on hV) (KH.out.on hV))
    have hA : (((v1.alloc (.cells #[.slice q1.ca n1.coils.length q1.cc, .slice q1.ia n1.inputs.length q1.ic, .slice q1.ha n1.holding.length q1.hc, .slice q1.wa n1.words.length q1.wc] 28)).alloc (.cells #[b8 r1.fn, b8 r1.ex, .slice b1 r1.bits.length e1, .slice a1 r1.words.length c1, b16 r1.at_, b16 r1.many] 36)).alloc (.cells #[.int .u16 1, .int .u16 2] 29)).heap[v1.heap.size + 1 + 1]? = some (.cells #[.int .u16 1, .int .u16 2] 29 (0, 0)) := at_two v1 _ _ _
    have HDO := Lib.hid (Do_at sX (pX w.heap.size) mX ⟨some ⟨W1.heap.size + 1, 0, none⟩, 10, none, 0, some ⟨W1.heap.size + 1 + 1, 0, none⟩, 8, none, 0⟩ ⟨16, 4, 2, 0, [1, 2], []⟩ (some ⟨v1.heap.size + 1 + 1, 0, none⟩) 2 none 0 (((v1.alloc (.cells #[.slice q1.ca n1.coils.length q1.cc, .slice q1.ia n1.inputs.length q1.ic, .slice q1.ha n1.holding.length q1.hc, .slice q1.wa n1.words.length q1.wc] 28)).alloc (.cells #[b8 r1.fn, b8 r1.ex, .slice b1 r1.bits.length e1, .slice a1 r1.words.length c1, b16 r1.at_, b16 r1.many] 36)).alloc (.cells #[.int .u16 1, .int .u16 2] 29)) KV.out.1.sp KV.out.1.me mX_small ⟨row_sl hA _ 2 rfl rfl (by omega), Sl.none_⟩ (by decide) (by decide))
    clear hA
    have HMV := Lib.hid (And.intro (HM1.out.1.on hV) (HM1.out.2.below hV))
    clear HM1
    clear hV
    rw [hd2] at HDO
    clear hd2 hf2 KA KH
    go_wp2_with fail
    generalize ((v1.alloc (.cells #[.slice q1.ca n1.coils.length q1.cc, .slice q1.ia n1.inputs.length q1.ic, .slice q1.ha n1.holding.length q1.hc, .slice q1.wa n1.words.length q1.wc] 28)).alloc (.cells #[b8 r1.fn, b8 r1.ex, .slice b1 r1.bits.length e1, .slice a1 r1.words.length c1, b16 r1.at_, b16 r1.many] 36)) = Z2 at *
    refine HDO.out.mono ?_
    rintro e v2 ⟨q2, a2, c2, b2, e2, rfl, hme2, hrp2, hb⟩
    have KV2 := Lib.hid (And.intro (KV.out.1.on hb) (KV.out.2.on hb))
    have HM2 := Lib.hid (And.intro (HMV.out.1.on hb) (HMV.out.2.below hb))
    clear HMV
    clear KV HDO hb s0 s1 s2 s3 g0 g1 g2 g3
    have hx1 : Below v2.heap.size v2 ((v2.alloc (.cells #[.slice q2.ca n2.coils.length q2.cc, .slice q2.ia n2.inputs.length q2.ic, .slice q2.ha n2.holding.length q2.hc, .slice q2.wa n2.words.length q2.wc] 28)).alloc (.cells #[b8 r2.fn, b8 r2.ex, .slice b2 r2.bits.length e2, .slice a2 r2.words.length c2, b16 r2.at_, b16 r2.many] 36)) := below_two v2 _ _
    have hx2 : ((v2.alloc (.cells #[.slice q2.ca n2.coils.length q2.cc, .slice q2.ia n2.inputs.length q2.ic, .slice q2.ha n2.holding.length q2.hc, .slice q2.wa n2.words.length q2.wc] 28)).alloc (.cells #[b8 r2.fn, b8 r2.ex, .slice b2 r2.bits.length e2, .slice a2 r2.words.length c2, b16 r2.at_, b16 r2.many] 36)).heap[v2.heap.size]? = some (.cells #[.slice q2.ca n2.coils.length q2.cc, .slice q2.ia n2.inputs.length q2.ic, .slice q2.ha n2.holding.length q2.hc, .slice q2.wa n2.words.length q2.wc] 28 (0, 0)) := (Below.heap_alloc _ _ _ (by simp)).trans (heap_alloc_new v2 _)
    have hx3 := at_one v2 (.cells #[.slice q2.ca n2.coils.length q2.cc, .slice q2.ia n2.inputs.length q2.ic, .slice q2.ha n2.holding.length q2.hc, .slice q2.wa n2.words.length q2.wc] 28) (.cells #[b8 r2.fn, b8 r2.ex, .slice b2 r2.bits.length e2, .slice a2 r2.words.length c2, b16 r2.at_, b16 r2.many] 36)
    have KA := Lib.hid (KV2.out.1.on hx1)
    have KH := Lib.hid (((KV2.out.2.on hx1).cons hx2).cons hx3)
    have HM1 : Hid (MeAt ((v2.alloc (.cells #[.slice q2.ca n2.coils.length q2.cc, .slice q2.ia n2.inputs.length q2.ic, .slice q2.ha n2.holding.length q2.hc, .slice q2.wa n2.words.length q2.wc] 28)).alloc (.cells #[b8 r2.fn, b8 r2.ex, .slice b2 r2.bits.length e2, .slice a2 r2.words.length c2, b16 r2.at_, b16 r2.many] 36)) ((v2.alloc (.cells #[.slice q2.ca n2.coils.length q2.cc, .slice q2.ia n2.inputs.length q2.ic, .slice q2.ha n2.holding.length q2.hc, .slice q2.wa n2.words.length q2.wc] 28)).alloc (.cells #[b8 r2.fn, b8 r2.ex, .slice b2 r2.bits.length e2, .slice a2 r2.words.length c2, b16 r2.at_, b16 r2.many] 36)).heap.size n1 q1 ∧ RepAt ((v2.alloc (.cells #[.slice q2.ca n2.coils.length q2.cc, .slice q2.ia n2.inputs.length q2.ic, .slice q2.ha n2.holding.length q2.hc, .slice q2.wa n2.words.length q2.wc] 28)).alloc (.cells #[b8 r2.fn, b8 r2.ex, .slice b2 r2.bits.length e2, .slice a2 r2.words.length c2, b16 r2.at_, b16 r2.many] 36)) ((v2.alloc (.cells #[.slice q2.ca n2.coils.length q2.cc, .slice q2.ia n2.inputs.length q2.ic, .slice q2.ha n2.holding.length q2.hc, .slice q2.wa n2.words.length q2.wc] 28)).alloc (.cells #[b8 r2.fn, b8 r2.ex, .slice b2 r2.bits.length e2, .slice a2 r2.words.length c2, b16 r2.at_, b16 r2.many] 36)).heap.size r1 a1 c1 b1 e1) := Lib.hid ⟨HM2.out.1.on hx1, HM2.out.2.below hx1⟩
    clear HM2
    clear hme2 hrp2 hx1 hx2 hx3 KV2
    obtain ⟨n3, r3, hd3, hf3⟩ : ∃ n r, doN sX mX ⟨3, 2, 4, 0, [], []⟩ = (n, r) ∧ (r.ex = 2) := ⟨_, _, rfl, mex3⟩
    have HF3 := Lib.hid hf3
    have s0 : ((v2.alloc (.cells #[.slice q2.ca n2.coils.length q2.cc, .slice q2.ia n2.inputs.length q2.ic, .slice q2.ha n2.holding.length q2.hc, .slice q2.wa n2.words.length q2.wc] 28)).alloc (.cells #[b8 r2.fn, b8 r2.ex, .slice b2 r2.bits.length e2, .slice a2 r2.words.length c2, b16 r2.at_, b16 r2.many] 36)).cell? ⟨w.heap.size + 1 + 1, 0, none⟩ = some (.slice (some ⟨w.heap.size, 0, none⟩) 1 1) := cell_of_row _ _ _ _ _ _ KA.out.t1
    have s1 : ((v2.alloc (.cells #[.slice q2.ca n2.coils.length q2.cc, .slice q2.ia n2.inputs.length q2.ic, .slice q2.ha n2.holding.length q2.hc, .slice q2.wa n2.words.length q2.wc] 28)).alloc (.cells #[b8 r2.fn, b8 r2.ex, .slice b2 r2.bits.length e2, .slice a2 r2.words.length c2, b16 r2.at_, b16 r2.many] 36)).cell? ⟨w.heap.size + 1 + 1, 1, none⟩ = some (.slice none 0 0) := cell_of_row _ _ _ _ _ _ KA.out.t1
    have s2 : ((v2.alloc (.cells #[.slice q2.ca n2.coils.length q2.cc, .slice q2.ia n2.inputs.length q2.ic, .slice q2.ha n2.holding.length q2.hc, .slice q2.wa n2.words.length q2.wc] 28)).alloc (.cells #[b8 r2.fn, b8 r2.ex, .slice b2 r2.bits.length e2, .slice a2 r2.words.length c2, b16 r2.at_, b16 r2.many] 36)).cell? ⟨w.heap.size + 1 + 1, 2, none⟩ = some (.slice (some ⟨w.heap.size + 1, 0, none⟩) 2 2) := cell_of_row _ _ _ _ _ _ KA.out.t1
    have s3 : ((v2.alloc (.cells #[.slice q2.ca n2.coils.length q2.cc, .slice q2.ia n2.inputs.length q2.ic, .slice q2.ha n2.holding.length q2.hc, .slice q2.wa n2.words.length q2.wc] 28)).alloc (.cells #[b8 r2.fn, b8 r2.ex, .slice b2 r2.bits.length e2, .slice a2 r2.words.length c2, b16 r2.at_, b16 r2.many] 36)).cell? ⟨w.heap.size + 1 + 1, 3, none⟩ = some (.slice none 0 0) := cell_of_row _ _ _ _ _ _ KA.out.t1
    have g0 : ((v2.alloc (.cells #[.slice q2.ca n2.coils.length q2.cc, .slice q2.ia n2.inputs.length q2.ic, .slice q2.ha n2.holding.length q2.hc, .slice q2.wa n2.words.length q2.wc] 28)).alloc (.cells #[b8 r2.fn, b8 r2.ex, .slice b2 r2.bits.length e2, .slice a2 r2.words.length c2, b16 r2.at_, b16 r2.many] 36)).cell? ⟨W1.heap.size, 0, none⟩ = some (.slice (some ⟨W1.heap.size + 1, 0, none⟩) 10 10) := cell_of_row _ _ _ _ _ _ KA.out.t2
    have g1 : ((v2.alloc (.cells #[.slice q2.ca n2.coils.length q2.cc, .slice q2.ia n2.inputs.length q2.ic, .slice q2.ha n2.holding.length q2.hc, .slice q2.wa n2.words.length q2.wc] 28)).alloc (.cells #[b8 r2.fn, b8 r2.ex, .slice b2 r2.bits.length e2, .slice a2 r2.words.length c2, b16 r2.at_, b16 r2.many] 36)).cell? ⟨W1.heap.size, 1, none⟩ = some (.slice none 0 0) := cell_of_row _ _ _ _ _ _ KA.out.t2
    have g2 : ((v2.alloc (.cells #[.slice q2.ca n2.coils.length q2.cc, .slice q2.ia n2.inputs.length q2.ic, .slice q2.ha n2.holding.length q2.hc, .slice q2.wa n2.words.length q2.wc] 28)).alloc (.cells #[b8 r2.fn, b8 r2.ex, .slice b2 r2.bits.length e2, .slice a2 r2.words.length c2, b16 r2.at_, b16 r2.many] 36)).cell? ⟨W1.heap.size, 2, none⟩ = some (.slice (some ⟨W1.heap.size + 1 + 1, 0, none⟩) 8 8) := cell_of_row _ _ _ _ _ _ KA.out.t2
    have g3 : ((v2.alloc (.cells #[.slice q2.ca n2.coils.length q2.cc, .slice q2.ia n2.inputs.length q2.ic, .slice q2.ha n2.holding.length q2.hc, .slice q2.wa n2.words.length q2.wc] 28)).alloc (.cells #[b8 r2.fn, b8 r2.ex, .slice b2 r2.bits.length e2, .slice a2 r2.words.length c2, b16 r2.at_, b16 r2.many] 36)).cell? ⟨W1.heap.size, 3, none⟩ = some (.slice none 0 0) := cell_of_row _ _ _ _ _ _ KA.out.t2
    have KV := Lib.hid (And.intro KA.out KH.out)
    have HDO := Lib.hid (Do_at sX (pX w.heap.size) mX ⟨some ⟨W1.heap.size + 1, 0, none⟩, 10, none, 0, some ⟨W1.heap.size + 1 + 1, 0, none⟩, 8, none, 0⟩ ⟨3, 2, 4, 0, [], []⟩ none 0 none 0 ((v2.alloc (.cells #[.slice q2.ca n2.coils.length q2.cc, .slice q2.ia n2.inputs.length q2.ic, .slice q2.ha n2.holding.length q2.hc, .slice q2.wa n2.words.length q2.wc] 28)).alloc (.cells #[b8 r2.fn, b8 r2.ex, .slice b2 r2.bits.length e2, .slice a2 r2.words.length c2, b16 r2.at_, b16 r2.many] 36)) KV.out.1.sp KV.out.1.me mX_small ⟨Sl.none_, Sl.none_⟩ (by decide) (by decide))
    have HMV := HM1
    clear HM1
    rw [hd3] at HDO
    clear hd3 hf3 KA KH
    go_wp2_with fail
    generalize ((v2.alloc (.cells #[.slice q2.ca n2.coils.length q2.cc, .slice q2.ia n2.inputs.length q2.ic, .slice q2.ha n2.holding.length q2.hc, .slice q2.wa n2.words.length q2.wc] 28)).alloc (.cells #[b8 r2.fn, b8 r2.ex, .slice b2 r2.bits.length e2, .slice a2 r2.words.length c2, b16 r2.at_, b16 r2.many] 36)) = Z3 at *
    refine HDO.out.mono ?_
    rintro e v3 ⟨q3, a3, c3, b3, e3, rfl, hme3, hrp3, hb⟩
    have KV2 := Lib.hid (And.intro (KV.out.1.on hb) (KV.out.2.on hb))
    have HM2 := Lib.hid (And.intro (HMV.out.1.on hb) (HMV.out.2.below hb))
    clear HMV
    clear KV HDO hb s0 s1 s2 s3 g0 g1 g2 g3
    have hx1 : Below v3.heap.size v3 ((v3.alloc (.cells #[.slice q3.ca n3.coils.length q3.cc, .slice q3.ia n3.inputs.length q3.ic, .slice q3.ha n3.holding.length q3.hc, .slice q3.wa n3.words.length q3.wc] 28)).alloc (.cells #[b8 r3.fn, b8 r3.ex, .slice b3 r3.bits.length e3, .slice a3 r3.words.length c3, b16 r3.at_, b16 r3.many] 36)) := below_two v3 _ _
    have hx2 : ((v3.alloc (.cells #[.slice q3.ca n3.coils.length q3.cc, .slice q3.ia n3.inputs.length q3.ic, .slice q3.ha n3.holding.length q3.hc, .slice q3.wa n3.words.length q3.wc] 28)).alloc (.cells #[b8 r3.fn, b8 r3.ex, .slice b3 r3.bits.length e3, .slice a3 r3.words.length c3, b16 r3.at_, b16 r3.many] 36)).heap[v3.heap.size]? = some (.cells #[.slice q3.ca n3.coils.length q3.cc, .slice q3.ia n3.inputs.length q3.ic, .slice q3.ha n3.holding.length q3.hc, .slice q3.wa n3.words.length q3.wc] 28 (0, 0)) := (Below.heap_alloc _ _ _ (by simp)).trans (heap_alloc_new v3 _)
    have hx3 := at_one v3 (.cells #[.slice q3.ca n3.coils.length q3.cc, .slice q3.ia n3.inputs.length q3.ic, .slice q3.ha n3.holding.length q3.hc, .slice q3.wa n3.words.length q3.wc] 28) (.cells #[b8 r3.fn, b8 r3.ex, .slice b3 r3.bits.length e3, .slice a3 r3.words.length c3, b16 r3.at_, b16 r3.many] 36)
    have KA := Lib.hid (KV2.out.1.on hx1)
    have KH := Lib.hid (((KV2.out.2.on hx1).cons hx2).cons hx3)
    have HM1 : Hid (MeAt ((v3.alloc (.cells #[.slice q3.ca n3.coils.length q3.cc, .slice q3.ia n3.inputs.length q3.ic, .slice q3.ha n3.holding.length q3.hc, .slice q3.wa n3.words.length q3.wc] 28)).alloc (.cells #[b8 r3.fn, b8 r3.ex, .slice b3 r3.bits.length e3, .slice a3 r3.words.length c3, b16 r3.at_, b16 r3.many] 36)) ((v3.alloc (.cells #[.slice q3.ca n3.coils.length q3.cc, .slice q3.ia n3.inputs.length q3.ic, .slice q3.ha n3.holding.length q3.hc, .slice q3.wa n3.words.length q3.wc] 28)).alloc (.cells #[b8 r3.fn, b8 r3.ex, .slice b3 r3.bits.length e3, .slice a3 r3.words.length c3, b16 r3.at_, b16 r3.many] 36)).heap.size n1 q1 ∧ RepAt ((v3.alloc (.cells #[.slice q3.ca n3.coils.length q3.cc, .slice q3.ia n3.inputs.length q3.ic, .slice q3.ha n3.holding.length q3.hc, .slice q3.wa n3.words.length q3.wc] 28)).alloc (.cells #[b8 r3.fn, b8 r3.ex, .slice b3 r3.bits.length e3, .slice a3 r3.words.length c3, b16 r3.at_, b16 r3.many] 36)) ((v3.alloc (.cells #[.slice q3.ca n3.coils.length q3.cc, .slice q3.ia n3.inputs.length q3.ic, .slice q3.ha n3.holding.length q3.hc, .slice q3.wa n3.words.length q3.wc] 28)).alloc (.cells #[b8 r3.fn, b8 r3.ex, .slice b3 r3.bits.length e3, .slice a3 r3.words.length c3, b16 r3.at_, b16 r3.many] 36)).heap.size r1 a1 c1 b1 e1) := Lib.hid ⟨HM2.out.1.on hx1, HM2.out.2.below hx1⟩
    clear HM2
    clear hme3 hrp3 hx1 hx2 hx3 KV2
    obtain ⟨n4, r4, hd4, hf4⟩ : ∃ n r, doN sX mX ⟨1, 0, 10, 0, [], []⟩ = (n, r) ∧ (r.bits.length = 16) := ⟨_, _, rfl, mex4⟩
    have HF4 := Lib.hid hf4
    have s0 : ((v3.alloc (.cells #[.slice q3.ca n3.coils.length q3.cc, .slice q3.ia n3.inputs.length q3.ic, .slice q3.ha n3.holding.length q3.hc, .slice q3.wa n3.words.length q3.wc] 28)).alloc (.cells #[b8 r3.fn, b8 r3.ex, .slice b3 r3.bits.length e3, .slice a3 r3.words.length c3, b16 r3.at_, b16 r3.many] 36)).cell? ⟨w.heap.size + 1 + 1, 0, none⟩ = some (.slice (some ⟨w.heap.size, 0, none⟩) 1 1) := cell_of_row _ _ _ _ _ _ KA.out.t1
    have s1 : ((v3.alloc (.cells #[.slice q3.ca n3.coils.length q3.cc, .slice q3.ia n3.inputs.length q3.ic, .slice q3.ha n3.holding.length q3.hc, .slice q3.wa n3.words.length q3.wc] 28)).alloc (.cells #[b8 r3.fn, b8 r3.ex, .slice b3 r3.bits.length e3, .slice a3 r3.words.length c3, b16 r3.at_, b16 r3.many] 36)).cell? ⟨w.heap.size + 1 + 1, 1, none⟩ = some (.slice none 0 0) := cell_of_row _ _ _ _ _ _ KA.out.t1
    have s2 : ((v3.alloc (.cells #[.slice q3.ca n3.coils.length q3.cc, .slice q3.ia n3.inputs.length q3.ic, .slice q3.ha n3.holding.length q3.hc, .slice q3.wa n3.words.length q3.wc] 28)).alloc (.cells #[b8 r3.fn, b8 r3.ex, .slice b3 r3.bits.length e3, .slice a3 r3.words.length c3, b16 r3.at_, b16 r3.many] 36)).cell? ⟨w.heap.size + 1 + 1, 2, none⟩ = some (.slice (some ⟨w.heap.size + 1, 0, none⟩) 2 2) := cell_of_row _ _ _ _ _ _ KA.out.t1
    have s3 : ((v3.alloc (.cells #[.slice q3.ca n3.coils.length q3.cc, .slice q3.ia n3.inputs.length q3.ic, .slice q3.ha n3.holding.length q3.hc, .slice q3.wa n3.words.length q3.wc] 28)).alloc (.cells #[b8 r3.fn, b8 r3.ex, .slice b3 r3.bits.length e3, .slice a3 r3.words.length c3, b16 r3.at_, b16 r3.many] 36)).cell? ⟨w.heap.size + 1 + 1, 3, none⟩ = some (.slice none 0 0) := cell_of_row _ _ _ _ _ _ KA.out.t1
    have g0 : ((v3.alloc (.cells #[.slice q3.ca n3.coils.length q3.cc, .slice q3.ia n3.inputs.length q3.ic, .slice q3.ha n3.holding.length q3.hc, .slice q3.wa n3.words.length q3.wc] 28)).alloc (.cells #[b8 r3.fn, b8 r3.ex, .slice b3 r3.bits.length e3, .slice a3 r3.words.length c3, b16 r3.at_, b16 r3.many] 36)).cell? ⟨W1.heap.size, 0, none⟩ = some (.slice (some ⟨W1.heap.size + 1, 0, none⟩) 10 10) := cell_of_row _ _ _ _ _ _ KA.out.t2
    have g1 : ((v3.alloc (.cells #[.slice q3.ca n3.coils.length q3.cc, .slice q3.ia n3.inputs.length q3.ic, .slice q3.ha n3.holding.length q3.hc, .slice q3.wa n3.words.length q3.wc] 28)).alloc (.cells #[b8 r3.fn, b8 r3.ex, .slice b3 r3.bits.length e3, .slice a3 r3.words.length c3, b16 r3.at_, b16 r3.many] 36)).cell? ⟨W1.heap.size, 1, none⟩ = some (.slice none 0 0) := cell_of_row _ _ _ _ _ _ KA.out.t2
    have g2 : ((v3.alloc (.cells #[.slice q3.ca n3.coils.length q3.cc, .slice q3.ia n3.inputs.length q3.ic, .slice q3.ha n3.holding.length q3.hc, .slice q3.wa n3.words.length q3.wc] 28)).alloc (.cells #[b8 r3.fn, b8 r3.ex, .slice b3 r3.bits.length e3, .slice a3 r3.words.length c3, b16 r3.at_, b16 r3.many] 36)).cell? ⟨W1.heap.size, 2, none⟩ = some (.slice (some ⟨W1.heap.size + 1 + 1, 0, none⟩) 8 8) := cell_of_row _ _ _ _ _ _ KA.out.t2
    have g3 : ((v3.alloc (.cells #[.slice q3.ca n3.coils.length q3.cc, .slice q3.ia n3.inputs.length q3.ic, .slice q3.ha n3.holding.length q3.hc, .slice q3.wa n3.words.length q3.wc] 28)).alloc (.cells #[b8 r3.fn, b8 r3.ex, .slice b3 r3.bits.length e3, .slice a3 r3.words.length c3, b16 r3.at_, b16 r3.many] 36)).cell? ⟨W1.heap.size, 3, none⟩ = some (.slice none 0 0) := cell_of_row _ _ _ _ _ _ KA.out.t2
    have KV := Lib.hid (And.intro KA.out KH.out)
    have HDO := Lib.hid (Do_at sX (pX w.heap.size) mX ⟨some ⟨W1.heap.size + 1, 0, none⟩, 10, none, 0, some ⟨W1.heap.size + 1 + 1, 0, none⟩, 8, none, 0⟩ ⟨1, 0, 10, 0, [], []⟩ none 0 none 0 ((v3.alloc (.cells #[.slice q3.ca n3.coils.length q3.cc, .slice q3.ia n3.inputs.length q3.ic, .slice q3.ha n3.holding.length q3.hc, .slice q3.wa n3.words.length q3.wc] 28)).alloc (.cells #[b8 r3.fn, b8 r3.ex, .slice b3 r3.bits.length e3, .slice a3 r3.words.length c3, b16 r3.at_, b16 r3.many] 36)) KV.out.1.sp KV.out.1.me mX_small ⟨Sl.none_, Sl.none_⟩ (by decide) (by decide))
    have HMV := HM1
    clear HM1
    rw [hd4] at HDO
    clear hd4 hf4 KA KH
    go_wp2_with fail
    generalize ((v3.alloc (.cells #[.slice q3.ca n3.coils.length q3.cc, .slice q3.ia n3.inputs.length q3.ic, .slice q3.ha n3.holding.length q3.hc, .slice q3.wa n3.words.length q3.wc] 28)).alloc (.cells #[b8 r3.fn, b8 r3.ex, .slice b3 r3.bits.length e3, .slice a3 r3.words.length c3, b16 r3.at_, b16 r3.many] 36)) = Z4 at *
    refine HDO.out.mono ?_
    rintro e v4 ⟨q4, a4, c4, b4, e4, rfl, hme4, hrp4, hb⟩
    have KV2 := Lib.hid (And.intro (KV.out.1.on hb) (KV.out.2.on hb))
    have HM2 := Lib.hid (And.intro (HMV.out.1.on hb) (HMV.out.2.below hb))
    clear HMV
    clear KV HDO hb s0 s1 s2 s3 g0 g1 g2 g3
    have hx1 : Below v4.heap.size v4 ((v4.alloc (.cells #[.slice q4.ca n4.coils.length q4.cc, .slice q4.ia n4.inputs.length q4.ic, .slice q4.ha n4.holding.length q4.hc, .slice q4.wa n4.words.length q4.wc] 28)).alloc (.cells #[b8 r4.fn, b8 r4.ex, .slice b4 r4.bits.length e4, .slice a4 r4.words.length c4, b16 r4.at_, b16 r4.many] 36)) := below_two v4 _ _
    have hx2 : ((v4.alloc (.cells #[.slice q4.ca n4.coils.length q4.cc, .slice q4.ia n4.inputs.length q4.ic, .slice q4.ha n4.holding.length q4.hc, .slice q4.wa n4.words.length q4.wc] 28)).alloc (.cells #[b8 r4.fn, b8 r4.ex, .slice b4 r4.bits.length e4, .slice a4 r4.words.length c4, b16 r4.at_, b16 r4.many] 36)).heap[v4.heap.size]? = some (.cells #[.slice q4.ca n4.coils.length q4.cc, .slice q4.ia n4.inputs.length q4.ic, .slice q4.ha n4.holding.length q4.hc, .slice q4.wa n4.words.length q4.wc] 28 (0, 0)) := (Below.heap_alloc _ _ _ (by simp)).trans (heap_alloc_new v4 _)
    have hx3 := at_one v4 (.cells #[.slice q4.ca n4.coils.length q4.cc, .slice q4.ia n4.inputs.length q4.ic, .slice q4.ha n4.holding.length q4.hc, .slice q4.wa n4.words.length q4.wc] 28) (.cells #[b8 r4.fn, b8 r4.ex, .slice b4 r4.bits.length e4, .slice a4 r4.words.length c4, b16 r4.at_, b16 r4.many] 36)
    have KA := Lib.hid (KV2.out.1.on hx1)
    have KH := Lib.hid (((KV2.out.2.on hx1).cons hx2).cons hx3)
    have HM1 : Hid (MeAt ((v4.alloc (.cells #[.slice q4.ca n4.coils.length q4.cc, .slice q4.ia n4.inputs.length q4.ic, .slice q4.ha n4.holding.length q4.hc, .slice q4.wa n4.words.length q4.wc] 28)).alloc (.cells #[b8 r4.fn, b8 r4.ex, .slice b4 r4.bits.length e4, .slice a4 r4.words.length c4, b16 r4.at_, b16 r4.many] 36)) ((v4.alloc (.cells #[.slice q4.ca n4.coils.length q4.cc, .slice q4.ia n4.inputs.length q4.ic, .slice q4.ha n4.holding.length q4.hc, .slice q4.wa n4.words.length q4.wc] 28)).alloc (.cells #[b8 r4.fn, b8 r4.ex, .slice b4 r4.bits.length e4, .slice a4 r4.words.length c4, b16 r4.at_, b16 r4.many] 36)).heap.size n1 q1 ∧ RepAt ((v4.alloc (.cells #[.slice q4.ca n4.coils.length q4.cc, .slice q4.ia n4.inputs.length q4.ic, .slice q4.ha n4.holding.length q4.hc, .slice q4.wa n4.words.length q4.wc] 28)).alloc (.cells #[b8 r4.fn, b8 r4.ex, .slice b4 r4.bits.length e4, .slice a4 r4.words.length c4, b16 r4.at_, b16 r4.many] 36)) ((v4.alloc (.cells #[.slice q4.ca n4.coils.length q4.cc, .slice q4.ia n4.inputs.length q4.ic, .slice q4.ha n4.holding.length q4.hc, .slice q4.wa n4.words.length q4.wc] 28)).alloc (.cells #[b8 r4.fn, b8 r4.ex, .slice b4 r4.bits.length e4, .slice a4 r4.words.length c4, b16 r4.at_, b16 r4.many] 36)).heap.size r1 a1 c1 b1 e1) := Lib.hid ⟨HM2.out.1.on hx1, HM2.out.2.below hx1⟩
    clear HM2
    clear hme4 hrp4 hx1 hx2 hx3 KV2
    have s0 : ((v4.alloc (.cells #[.slice q4.ca n4.coils.length q4.cc, .slice q4.ia n4.inputs.length q4.ic, .slice q4.ha n4.holding.length q4.hc, .slice q4.wa n4.words.length q4.wc] 28)).alloc (.cells #[b8 r4.fn, b8 r4.ex, .slice b4 r4.bits.length e4, .slice a4 r4.words.length c4, b16 r4.at_, b16 r4.many] 36)).cell? ⟨w.heap.size + 1 + 1, 0, none⟩ = some (.slice (some ⟨w.heap.size, 0, none⟩) 1 1) := cell_of_row _ _ _ _ _ _ KA.out.t1
    have s1 : ((v4.alloc (.cells #[.slice q4.ca n4.coils.length q4.cc, .slice q4.ia n4.inputs.length q4.ic, .slice q4.ha n4.holding.length q4.hc, .slice q4.wa n4.words.length q4.wc] 28)).alloc (.cells #[b8 r4.fn, b8 r4.ex, .slice b4 r4.bits.length e4, .slice a4 r4.words.length c4, b16 r4.at_, b16 r4.many] 36)).cell? ⟨w.heap.size + 1 + 1, 1, none⟩ = some (.slice none 0 0) := cell_of_row _ _ _ _ _ _ KA.out.t1
    have s2 : ((v4.alloc (.cells #[.slice q4.ca n4.coils.length q4.cc, .slice q4.ia n4.inputs.length q4.ic, .slice q4.ha n4.holding.length q4.hc, .slice q4.wa n4.words.length q4.wc] 28)).alloc (.cells #[b8 r4.fn, b8 r4.ex, .slice b4 r4.bits.length e4, .slice a4 r4.words.length c4, b16 r4.at_, b16 r4.many] 36)).cell? ⟨w.heap.size + 1 + 1, 2, none⟩ = some (.slice (some ⟨w.heap.size + 1, 0, none⟩) 2 2) := cell_of_row _ _ _ _ _ _ KA.out.t1
    have s3 : ((v4.alloc (.cells #[.slice q4.ca n4.coils.length q4.cc, .slice q4.ia n4.inputs.length q4.ic, .slice q4.ha n4.holding.length q4.hc, .slice q4.wa n4.words.length q4.wc] 28)).alloc (.cells #[b8 r4.fn, b8 r4.ex, .slice b4 r4.bits.length e4, .slice a4 r4.words.length c4, b16 r4.at_, b16 r4.many] 36)).cell? ⟨w.heap.size + 1 + 1, 3, none⟩ = some (.slice none 0 0) := cell_of_row _ _ _ _ _ _ KA.out.t1
    have g0 : ((v4.alloc (.cells #[.slice q4.ca n4.coils.length q4.cc, .slice q4.ia n4.inputs.length q4.ic, .slice q4.ha n4.holding.length q4.hc, .slice q4.wa n4.words.length q4.wc] 28)).alloc (.cells #[b8 r4.fn, b8 r4.ex, .slice b4 r4.bits.length e4, .slice a4 r4.words.length c4, b16 r4.at_, b16 r4.many] 36)).cell? ⟨W1.heap.size, 0, none⟩ = some (.slice (some ⟨W1.heap.size + 1, 0, none⟩) 10 10) := cell_of_row _ _ _ _ _ _ KA.out.t2
    have g1 : ((v4.alloc (.cells #[.slice q4.ca n4.coils.length q4.cc, .slice q4.ia n4.inputs.length q4.ic, .slice q4.ha n4.holding.length q4.hc, .slice q4.wa n4.words.length q4.wc] 28)).alloc (.cells #[b8 r4.fn, b8 r4.ex, .slice b4 r4.bits.length e4, .slice a4 r4.words.length c4, b16 r4.at_, b16 r4.many] 36)).cell? ⟨W1.heap.size, 1, none⟩ = some (.slice none 0 0) := cell_of_row _ _ _ _ _ _ KA.out.t2
    have g2 : ((v4.alloc (.cells #[.slice q4.ca n4.coils.length q4.cc, .slice q4.ia n4.inputs.length q4.ic, .slice q4.ha n4.holding.length q4.hc, .slice q4.wa n4.words.length q4.wc] 28)).alloc (.cells #[b8 r4.fn, b8 r4.ex, .slice b4 r4.bits.length e4, .slice a4 r4.words.length c4, b16 r4.at_, b16 r4.many] 36)).cell? ⟨W1.heap.size, 2, none⟩ = some (.slice (some ⟨W1.heap.size + 1 + 1, 0, none⟩) 8 8) := cell_of_row _ _ _ _ _ _ KA.out.t2
    have g3 : ((v4.alloc (.cells #[.slice q4.ca n4.coils.length q4.cc, .slice q4.ia n4.inputs.length q4.ic, .slice q4.ha n4.holding.length q4.hc, .slice q4.wa n4.words.length q4.wc] 28)).alloc (.cells #[b8 r4.fn, b8 r4.ex, .slice b4 r4.bits.length e4, .slice a4 r4.words.length c4, b16 r4.at_, b16 r4.many] 36)).cell? ⟨W1.heap.size, 3, none⟩ = some (.slice none 0 0) := cell_of_row _ _ _ _ _ _ KA.out.t2
    have HRI := Lib.hid (MRight_any sX mX (pX w.heap.size) ⟨some ⟨W1.heap.size + 1, 0, none⟩, 10, none, 0, some ⟨W1.heap.size + 1 + 1, 0, none⟩, 8, none, 0⟩ ((v4.alloc (.cells #[.slice q4.ca n4.coils.length q4.cc, .slice q4.ia n4.inputs.length q4.ic, .slice q4.ha n4.holding.length q4.hc, .slice q4.wa n4.words.length q4.wc] 28)).alloc (.cells #[b8 r4.fn, b8 r4.ex, .slice b4 r4.bits.length e4, .slice a4 r4.words.length c4, b16 r4.at_, b16 r4.many] 36)) KA.out.sp KA.out.me mX_small)
    rw [mex5] at HRI
    go_wp2_with fail
    generalize ((v4.alloc (.cells #[.slice q4.ca n4.coils.length q4.cc, .slice q4.ia n4.inputs.length q4.ic, .slice q4.ha n4.holding.length q4.hc, .slice q4.wa n4.words.length q4.wc] 28)).alloc (.cells #[b8 r4.fn, b8 r4.ex, .slice b4 r4.bits.length e4, .slice a4 r4.words.length c4, b16 r4.at_, b16 r4.many] 36)) = Z5 at *
    refine HRI.out.mono ?_
    rintro e z1 ⟨rfl, hb⟩
    have KZ := Lib.hid (And.intro (KA.out.below.trans (hb.mono KA.out.below.size)) (And.intro (KH.out.on hb) (And.intro (HM1.out.1.on hb) (HM1.out.2.below hb))))
    clear hb KA KH HM1 HRI s0 s1 s2 s3 g0 g1 g2 g3
    obtain ⟨hl, hi, hr⟩ := HF1.out
    subst hr
    obtain ⟨xb7, xo7, x7, hq7, -, hx7, hc7⟩ := KZ.out.2.2.1.holding.at_ (k := 7) (by omega)
    have h7 : x7 = 4 := by rw [hi] at hx7; injection hx7 with hx7; exact hx7.symm
    subst h7
    have u2 : z1.cell? ⟨v1.heap.size, 2, none⟩ = some (.slice q1.ha n1.holding.length q1.hc) := cell_of_row _ _ _ _ _ _ (KZ.out.2.1 (v1.heap.size, #[.slice q1.ca n1.coils.length q1.cc, .slice q1.ia n1.inputs.length q1.ic, .slice q1.ha n1.holding.length q1.hc, .slice q1.wa n1.words.length q1.wc], 28) (by simp))
    have y0 : z1.cell? ⟨v1.heap.size + 1, 0, none⟩ = some (b8 16) := cell_of_row _ _ _ _ _ _ (KZ.out.2.1 (v1.heap.size + 1, #[b8 16, b8 0, .slice b1 0 e1, .slice a1 0 c1, b16 4, b16 4], 36) (by simp))
    have y1 : z1.cell? ⟨v1.heap.size + 1, 1, none⟩ = some (b8 0) := cell_of_row _ _ _ _ _ _ (KZ.out.2.1 (v1.heap.size + 1, #[b8 16, b8 0, .slice b1 0 e1, .slice a1 0 c1, b16 4, b16 4], 36) (by simp))
    have y2 : z1.cell? ⟨v1.heap.size + 1, 2, none⟩ = some (.slice b1 0 e1) := cell_of_row _ _ _ _ _ _ (KZ.out.2.1 (v1.heap.size + 1, #[b8 16, b8 0, .slice b1 0 e1, .slice a1 0 c1, b16 4, b16 4], 36) (by simp))
    have y3 : z1.cell? ⟨v1.heap.size + 1, 3, none⟩ = some (.slice a1 0 c1) := cell_of_row _ _ _ _ _ _ (KZ.out.2.1 (v1.heap.size + 1, #[b8 16, b8 0, .slice b1 0 e1, .slice a1 0 c1, b16 4, b16 4], 36) (by simp))
    have y4 : z1.cell? ⟨v1.heap.size + 1, 4, none⟩ = some (b16 4) := cell_of_row _ _ _ _ _ _ (KZ.out.2.1 (v1.heap.size + 1, #[b8 16, b8 0, .slice b1 0 e1, .slice a1 0 c1, b16 4, b16 4], 36) (by simp))
    have y5 : z1.cell? ⟨v1.heap.size + 1, 5, none⟩ = some (b16 4) := cell_of_row _ _ _ _ _ _ (KZ.out.2.1 (v1.heap.size + 1, #[b8 16, b8 0, .slice b1 0 e1, .slice a1 0 c1, b16 4, b16 4], 36) (by simp))
    rw [hq7, hl] at u2
    have hcm := len_le KZ.out.2.2.1.holding
    have HSM := Lib.hid (RSame_any ⟨16, 0, [], [], 4, 4⟩ ⟨16, 0, [], [], 4, 4⟩ a1 c1 b1 e1 none 0 none 0 z1 KZ.out.2.2.2 (RepAt.nil rfl rfl))
    rw [decide_eq_true rfl] at HSM
    clear hl hi hx7
    go_wp2_with fail
    refine HSM.out.mono ?_
    rintro e z2 ⟨rfl, hb⟩
    have KZ2 := Lib.hid (And.intro (KZ.out.1.trans (hb.mono KZ.out.1.size)) (KZ.out.2.1.on hb))
    clear hb KZ HSM u2 y0 y1 y2 y3 y4 y5 hc7
    have p2 : z2.cell? ⟨v2.heap.size + 1, 1, none⟩ = some (b8 r2.ex) := cell_of_row _ _ _ _ _ _ (KZ2.out.2 (v2.heap.size + 1, #[b8 r2.fn, b8 r2.ex, .slice b2 r2.bits.length e2, .slice a2 r2.words.length c2, b16 r2.at_, b16 r2.many], 36) (by simp))
    rw [HF2.out] at p2
    have p3 : z2.cell? ⟨v3.heap.size + 1, 1, none⟩ = some (b8 r3.ex) := cell_of_row _ _ _ _ _ _ (KZ2.out.2 (v3.heap.size + 1, #[b8 r3.fn, b8 r3.ex, .slice b3 r3.bits.length e3, .slice a3 r3.words.length c3, b16 r3.at_, b16 r3.many], 36) (by simp))
    rw [HF3.out] at p3
    have p4 : z2.cell? ⟨v4.heap.size + 1, 2, none⟩ = some (.slice b4 r4.bits.length e4) := cell_of_row _ _ _ _ _ _ (KZ2.out.2 (v4.heap.size + 1, #[b8 r4.fn, b8 r4.ex, .slice b4 r4.bits.length e4, .slice a4 r4.words.length c4, b16 r4.at_, b16 r4.many], 36) (by simp))
    rw [HF4.out] at p4
    go_wp2_with fail
    go_ret
    exact Says.mk KZ2.out.1
  · have HQ := Lib.hid (HMK.out (((W1.alloc (.cells #[.slice (some ⟨W1.heap.size + 1 + 1, 0, none⟩) 10 10, .slice none 0 0, .slice (some ⟨W1.heap.size + 1, 0, none⟩) 8 8, .slice none 0 0] 28)).alloc (.cells #[.int .u16 0, .int .u16 0, .int .u16 0, .int .u16 0, .int .u16 0, .int .u16 0, .int .u16 0, .int .u16 0] 29)).alloc (.cells #[.bool false, .bool false, .bool false, .bool false, .bool false, .bool false, .bool false, .bool false, .bool false, .bool false] 4)).drew (three_rows W1 _ _ _).1 (W1.heap.size + 1 + 1) (W1.heap.size + 1) (W1.heap.size) ((three_rows W1 (.cells #[.slice (some ⟨W1.heap.size + 1 + 1, 0, none⟩) 10 10, .slice none 0 0, .slice (some ⟨W1.heap.size + 1, 0, none⟩) 8 8, .slice none 0 0] 28) (.cells #[.int .u16 0, .int .u16 0, .int .u16 0, .int .u16 0, .int .u16 0, .int .u16 0, .int .u16 0, .int .u16 0] 29) (.cells #[.bool false, .bool false, .bool false, .bool false, .bool false, .bool false, .bool false, .bool false, .bool false, .bool false] 4)).2.2.2) ((three_rows W1 (.cells #[.slice (some ⟨W1.heap.size + 1 + 1, 0, none⟩) 10 10, .slice none 0 0, .slice (some ⟨W1.heap.size + 1, 0, none⟩) 8 8, .slice none 0 0] 28) (.cells #[.int .u16 0, .int .u16 0, .int .u16 0, .int .u16 0, .int .u16 0, .int .u16 0, .int .u16 0, .int .u16 0] 29) (.cells #[.bool false, .bool false, .bool false, .bool false, .bool false, .bool false, .bool false, .bool false, .bool false, .bool false] 4)).2.2.1) ((three_rows W1 (.cells #[.slice (some ⟨W1.heap.size + 1 + 1, 0, none⟩) 10 10, .slice none 0 0, .slice (some ⟨W1.heap.size + 1, 0, none⟩) 8 8, .slice none 0 0] 28) (.cells #[.int .u16 0, .int .u16 0, .int .u16 0, .int .u16 0, .int .u16 0, .int .u16 0, .int .u16 0, .int .u16 0] 29) (.cells #[.bool false, .bool false, .bool false, .bool false, .bool false, .bool false, .bool false, .bool false, .bool false, .bool false] 4)).2.1))
    clear hmB hmW
    generalize (((W1.alloc (.cells #[.slice (some ⟨W1.heap.size + 1 + 1, 0, none⟩) 10 10, .slice none 0 0, .slice (some ⟨W1.heap.size + 1, 0, none⟩) 8 8, .slice none 0 0] 28)).alloc (.cells #[.int .u16 0, .int .u16 0, .int .u16 0, .int .u16 0, .int .u16 0, .int .u16 0, .int .u16 0, .int .u16 0] 29)).alloc (.cells #[.bool false, .bool false, .bool false, .bool false, .bool false, .bool false, .bool false, .bool false, .bool false, .bool false] 4)).drew = WE at *
    have KA := HQ
    have KH : Hid (Has WE []) := Lib.hid fun x hx => by cases hx
    clear HQ HMK
    obtain ⟨n1, r1, hd1, hf1⟩ : ∃ n r, doN sX mX ⟨16, 4, 4, 0, [1, 2, 3, 4], []⟩ = (n, r) ∧ (n.holding.length = 8 ∧ n.holding[7]? = some 4 ∧ r = ⟨16, 0, [], [], 4, 4⟩) := ⟨_, _, rfl, mex1⟩
    have HF1 := Lib.hid hf1
    have s0 : WE.cell? ⟨w.heap.size + 1 + 1, 0, none⟩ = some (.slice (some ⟨w.heap.size, 0, none⟩) 1 1) := cell_of_row _ _ _ _ _ _ KA.out.t1
    have s1 : WE.cell? ⟨w.heap.size + 1 + 1, 1, none⟩ = some (.slice none 0 0) := cell_of_row _ _ _ _ _ _ KA.out.t1
    have s2 : WE.cell? ⟨w.heap.size + 1 + 1, 2, none⟩ = some (.slice (some ⟨w.heap.size + 1, 0, none⟩) 2 2) := cell_of_row _ _ _ _ _ _ KA.out.t1
    have s3 : WE.cell? ⟨w.heap.size + 1 + 1, 3, none⟩ = some (.slice none 0 0) := cell_of_row _ _ _ _ _ _ KA.out.t1
    have g0 : WE.cell? ⟨W1.heap.size, 0, none⟩ = some (.slice (some ⟨W1.heap.size + 1 + 1, 0, none⟩) 10 10) := cell_of_row _ _ _ _ _ _ KA.out.t2
    have g1 : WE.cell? ⟨W1.heap.size, 1, none⟩ = some (.slice none 0 0) := cell_of_row _ _ _ _ _ _ KA.out.t2
    have g2 : WE.cell? ⟨W1.heap.size, 2, none⟩ = some (.slice (some ⟨W1.heap.size + 1, 0, none⟩) 8 8) := cell_of_row _ _ _ _ _ _ KA.out.t2
    have g3 : WE.cell? ⟨W1.heap.size, 3, none⟩ = some (.slice none 0 0) := cell_of_row _ _ _ _ _ _ KA.out.t2
    have hV := below_al WE (.cells #[.int .u16 1, .int .u16 2, .int .u16 3, .int .u16 4] 29)
    have KV := Lib.hid (And.intro (KA.out.on hV) (KH.out.on hV))
    have hA : (WE.alloc (.cells #[.int .u16 1, .int .u16 2, .int .u16 3, .int .u16 4] 29)).heap[WE.heap.size]? = some (.cells #[.int .u16 1, .int .u16 2, .int .u16 3, .int .u16 4] 29 (0, 0)) := heap_alloc_new WE _
    have HDO := Lib.hid (Do_at sX (pX w.heap.size) mX ⟨some ⟨W1.heap.size + 1 + 1, 0, none⟩, 10, none, 0, some ⟨W1.heap.size + 1, 0, none⟩, 8, none, 0⟩ ⟨16, 4, 4, 0, [1, 2, 3, 4], []⟩ (some ⟨WE.heap.size, 0, none⟩) 4 none 0 (WE.alloc (.cells #[.int .u16 1, .int .u16 2, .int .u16 3, .int .u16 4] 29)) KV.out.1.sp KV.out.1.me mX_small ⟨row_sl hA _ 4 rfl rfl (by omega), Sl.none_⟩ (by decide) (by decide))
    clear hA
    clear hV
    rw [hd1] at HDO
    clear hd1 hf1 KA KH
    go_wp2_with fail
    refine HDO.out.mono ?_
    rintro e v1 ⟨q1, a1, c1, b1, e1, rfl, hme1, hrp1, hb⟩
    have KV2 := Lib.hid (And.intro (KV.out.1.on hb) (KV.out.2.on hb))
    clear KV HDO hb s0 s1 s2 s3 g0 g1 g2 g3
    have hx1 : Below v1.heap.size v1 ((v1.alloc (.cells #[.slice q1.ca n1.coils.length q1.cc, .slice q1.ia n1.inputs.length q1.ic, .slice q1.ha n1.holding.length q1.hc, .slice q1.wa n1.words.length q1.wc] 28)).alloc (.cells #[b8 r1.fn, b8 r1.ex, .slice b1 r1.bits.length e1, .slice a1 r1.words.length c1, b16 r1.at_, b16 r1.many] 36)) := below_two v1 _ _
    have hx2 : ((v1.alloc (.cells #[.slice q1.ca n1.coils.length q1.cc, .slice q1.ia n1.inputs.length q1.ic, .slice q1.ha n1.holding.length q1.hc, .slice q1.wa n1.words.length q1.wc] 28)).alloc (.cells #[b8 r1.fn, b8 r1.ex, .slice b1 r1.bits.length e1, .slice a1 r1.words.length c1, b16 r1.at_, b16 r1.many] 36)).heap[v1.heap.size]? = some (.cells #[.slice q1.ca n1.coils.length q1.cc, .slice q1.ia n1.inputs.length q1.ic, .slice q1.ha n1.holding.length q1.hc, .slice q1.wa n1.words.length q1.wc] 28 (0, 0)) := (Below.heap_alloc _ _ _ (by simp)).trans (heap_alloc_new v1 _)
    have hx3 := at_one v1 (.cells #[.slice q1.ca n1.coils.length q1.cc, .slice q1.ia n1.inputs.length q1.ic, .slice q1.ha n1.holding.length q1.hc, .slice q1.wa n1.words.length q1.wc] 28) (.cells #[b8 r1.fn, b8 r1.ex, .slice b1 r1.bits.length e1, .slice a1 r1.words.length c1, b16 r1.at_, b16 r1.many] 36)
    have KA := Lib.hid (KV2.out.1.on hx1)
    have KH := Lib.hid (((KV2.out.2.on hx1).cons hx2).cons hx3)
    have HM1 : Hid (MeAt ((v1.alloc (.cells #[.slice q1.ca n1.coils.length q1.cc, .slice q1.ia n1.inputs.length q1.ic, .slice q1.ha n1.holding.length q1.hc, .slice q1.wa n1.words.length q1.wc] 28)).alloc (.cells #[b8 r1.fn, b8 r1.ex, .slice b1 r1.bits.length e1, .slice a1 r1.words.length c1, b16 r1.at_, b16 r1.many] 36)) ((v1.alloc (.cells #[.slice q1.ca n1.coils.length q1.cc, .slice q1.ia n1.inputs.length q1.ic, .slice q1.ha n1.holding.length q1.hc, .slice q1.wa n1.words.length q1.wc] 28)).alloc (.cells #[b8 r1.fn, b8 r1.ex, .slice b1 r1.bits.length e1, .slice a1 r1.words.length c1, b16 r1.at_, b16 r1.many] 36)).heap.size n1 q1 ∧ RepAt ((v1.alloc (.cells #[.slice q1.ca n1.coils.length q1.cc, .slice q1.ia n1.inputs.length q1.ic, .slice q1.ha n1.holding.length q1.hc, .slice q1.wa n1.words.length q1.wc] 28)).alloc (.cells #[b8 r1.fn, b8 r1.ex, .slice b1 r1.bits.length e1, .slice a1 r1.words.length c1, b16 r1.at_, b16 r1.many] 36)) ((v1.alloc (.cells #[.slice q1.ca n1.coils.length q1.cc, .slice q1.ia n1.inputs.length q1.ic, .slice q1.ha n1.holding.length q1.hc, .slice q1.wa n1.words.length q1.wc] 28)).alloc (.cells #[b8 r1.fn, b8 r1.ex, .slice b1 r1.bits.length e1, .slice a1 r1.words.length c1, b16 r1.at_, b16 r1.many] 36)).heap.size r1 a1 c1 b1 e1) := Lib.hid ⟨hme1.on hx1, hrp1.below hx1⟩
    clear hme1 hrp1 hx1 hx2 hx3 KV2
    obtain ⟨n2, r2, hd2, hf2⟩ : ∃ n r, doN sX mX ⟨16, 4, 2, 0, [1, 2], []⟩ = (n, r) ∧ (r.ex = 2) := ⟨_, _, rfl, mex2⟩
    have HF2 := Lib.hid hf2
    have s0 : ((v1.alloc (.cells #[.slice q1.ca n1.coils.length q1.cc, .slice q1.ia n1.inputs.length q1.ic, .slice q1.ha n1.holding.length q1.hc, .slice q1.wa n1.words.length q1.wc] 28)).alloc (.cells #[b8 r1.fn, b8 r1.ex, .slice b1 r1.bits.length e1, .slice a1 r1.words.length c1, b16 r1.at_, b16 r1.many] 36)).cell? ⟨w.heap.size + 1 + 1, 0, none⟩ = some (.slice (some ⟨w.heap.size, 0, none⟩) 1 1) := cell_of_row _ _ _ _ _ _ KA.out.t1
    have s1 : ((v1.alloc (.cells #[.slice q1.ca n1.coils.length q1.cc, .slice q1.ia n1.inputs.length q1.ic, .slice q1.ha n1.holding.length q1.hc, .slice q1.wa n1.words.length q1.wc] 28)).alloc (.cells #[b8 r1.fn, b8 r1.ex, .slice b1 r1.bits.length e1, .slice a1 r1.words.length c1, b16 r1.at_, b16 r1.many] 36)).cell? ⟨w.heap.size + 1 + 1, 1, none⟩ = some (.slice none 0 0) := cell_of_row _ _ _ _ _ _ KA.out.t1
    have s2 : ((v1.alloc (.cells #[.slice q1.ca n1.coils.length q1.cc, .slice q1.ia n1.inputs.length q1.ic, .slice q1.ha n1.holding.length q1.hc, .slice q1.wa n1.words.length q1.wc] 28)).alloc (.cells #[b8 r1.fn, b8 r1.ex, .slice b1 r1.bits.length e1, .slice a1 r1.words.length c1, b16 r1.at_, b16 r1.many] 36)).cell? ⟨w.heap.size + 1 + 1, 2, none⟩ = some (.slice (some ⟨w.heap.size + 1, 0, none⟩) 2 2) := cell_of_row _ _ _ _ _ _ KA.out.t1
    have s3 : ((v1.alloc (.cells #[.slice q1.ca n1.coils.length q1.cc, .slice q1.ia n1.inputs.length q1.ic, .slice q1.ha n1.holding.length q1.hc, .slice q1.wa n1.words.length q1.wc] 28)).alloc (.cells #[b8 r1.fn, b8 r1.ex, .slice b1 r1.bits.length e1, .slice a1 r1.words.length c1, b16 r1.at_, b16 r1.many] 36)).cell? ⟨w.heap.size + 1 + 1, 3, none⟩ = some (.slice none 0 0) := cell_of_row _ _ _ _ _ _ KA.out.t1
    have g0 : ((v1.alloc (.cells #[.slice q1.ca n1.coils.length q1.cc, .slice q1.ia n1.inputs.length q1.ic, .slice q1.ha n1.holding.length q1.hc, .slice q1.wa n1.words.length q1.wc] 28)).alloc (.cells #[b8 r1.fn, b8 r1.ex, .slice b1 r1.bits.length e1, .slice a1 r1.words.length c1, b16 r1.at_, b16 r1.many] 36)).cell? ⟨W1.heap.size, 0, none⟩ = some (.slice (some ⟨W1.heap.size + 1 + 1, 0, none⟩) 10 10) := cell_of_row _ _ _ _ _ _ KA.out.t2
    have g1 : ((v1.alloc (.cells #[.slice q1.ca n1.coils.length q1.cc, .slice q1.ia n1.inputs.length q1.ic, .slice q1.ha n1.holding.length q1.hc, .slice q1.wa n1.words.length q1.wc] 28)).alloc (.cells #[b8 r1.fn, b8 r1.ex, .slice b1 r1.bits.length e1, .slice a1 r1.words.length c1, b16 r1.at_, b16 r1.many] 36)).cell? ⟨W1.heap.size, 1, none⟩ = some (.slice none 0 0) := cell_of_row _ _ _ _ _ _ KA.out.t2
    have g2 : ((v1.alloc (.cells #[.slice q1.ca n1.coils.length q1.cc, .slice q1.ia n1.inputs.length q1.ic, .slice q1.ha n1.holding.length q1.hc, .slice q1.wa n1.words.length q1.wc] 28)).alloc (.cells #[b8 r1.fn, b8 r1.ex, .slice b1 r1.bits.length e1, .slice a1 r1.words.length c1, b16 r1.at_, b16 r1.many] 36)).cell? ⟨W1.heap.size, 2, none⟩ = some (.slice (some ⟨W1.heap.size + 1, 0, none⟩) 8 8) := cell_of_row _ _ _ _ _ _ KA.out.t2
    have g3 : ((v1.alloc (.cells #[.slice q1.ca n1.coils.length q1.cc, .slice q1.ia n1.inputs.length q1.ic, .slice q1.ha n1.holding.length q1.hc, .slice q1.wa n1.words.length q1.wc] 28)).alloc (.cells #[b8 r1.fn, b8 r1.ex, .slice b1 r1.bits.length e1, .slice a1 r1.words.length c1, b16 r1.at_, b16 r1.many] 36)).cell? ⟨W1.heap.size, 3, none⟩ = some (.slice none 0 0) := cell_of_row _ _ _ _ _ _ KA.out.t2
    have hV := below_al ((v1.alloc (.cells #[.slice q1.ca n1.coils.length q1.cc, .slice q1.ia n1.inputs.length q1.ic, .slice q1.ha n1.holding.length q1.hc, .slice q1.wa n1.words.length q1.wc] 28)).alloc (.cells #[b8 r1.fn, b8 r1.ex, .slice b1 r1.bits.length e1, .slice a1 r1.words.length c1, b16 r1.at_, b16 r1.many] 36)) (.cells #[.int .u16 1, .int .u16 2] 29)
    have KV := Lib.hid (And.intro (KA.out.on hV) (KH.out.on hV))
    have hA : (((v1.alloc (.cells #[.slice q1.ca n1.coils.length q1.cc, .slice q1.ia n1.inputs.length q1.ic, .slice q1.ha n1.holding.length q1.hc, .slice q1.wa n1.words.length q1.wc] 28)).alloc (.cells #[b8 r1.fn, b8 r1.ex, .slice b1 r1.bits.length e1, .slice a1 r1.words.length c1, b16 r1.at_, b16 r1.many] 36)).alloc (.cells #[.int .u16 1, .int .u16 2] 29)).heap[v1.heap.size + 1 + 1]? = some (.cells #[.int .u16 1, .int .u16 2] 29 (0, 0)) := at_two v1 _ _ _
    have HDO := Lib.hid (Do_at sX (pX w.heap.size) mX ⟨some ⟨W1.heap.size + 1 + 1, 0, none⟩, 10, none, 0, some ⟨W1.heap.size + 1, 0, none⟩, 8, none, 0⟩ ⟨16, 4, 2, 0, [1, 2], []⟩ (some ⟨v1.heap.size + 1 + 1, 0, none⟩) 2 none 0 (((v1.alloc (.cells #[.slice q1.ca n1.coils.length q1.cc, .slice q1.ia n1.inputs.length q1.ic, .slice q1.ha n1.holding.length q1.hc, .slice q1.wa n1.words.length q1.wc] 28)).alloc (.cells #[b8 r1.fn, b8 r1.ex, .slice b1 r1.bits.length e1, .slice a1 r1.words.length c1, b16 r1.at_, b16 r1.many] 36)).alloc (.cells #[.int .u16 1, .int .u16 2] 29)) KV.out.1.sp KV.out.1.me mX_small ⟨row_sl hA _ 2 rfl rfl (by omega), Sl.none_⟩ (by decide) (by decide))
    clear hA
    have HMV := Lib.hid (And.intro (HM1.out.1.on hV) (HM1.out.2.below hV))
    clear HM1
    clear hV
    rw [hd2] at HDO
    clear hd2 hf2 KA KH
    go_wp2_with fail
    generalize ((v1.alloc (.cells #[.slice q1.ca n1.coils.length q1.cc, .slice q1.ia n1.inputs.length q1.ic, .slice q1.ha n1.holding.length q1.hc, .slice q1.wa n1.words.length q1.wc] 28)).alloc (.cells #[b8 r1.fn, b8 r1.ex, .slice b1 r1.bits.length e1, .slice a1 r1.words.length c1, b16 r1.at_, b16 r1.many] 36)) = Z2 at *
    refine HDO.out.mono ?_
    rintro e v2 ⟨q2, a2, c2, b2, e2, rfl, hme2, hrp2, hb⟩
    have KV2 := Lib.hid (And.intro (KV.out.1.on hb) (KV.out.2.on hb))
    have HM2 := Lib.hid (And.intro (HMV.out.1.on hb) (HMV.out.2.below hb))
    clear HMV
    clear KV HDO hb s0 s1 s2 s3 g0 g1 g2 g3
    have hx1 : Below v2.heap.size v2 ((v2.alloc (.cells #[.slice q2.ca n2.coils.length q2.cc, .slice q2.ia n2.inputs.length q2.ic, .slice q2.ha n2.holding.length q2.hc, .slice q2.wa n2.words.length q2.wc] 28)).alloc (.cells #[b8 r2.fn, b8 r2.ex, .slice b2 r2.bits.length e2, .slice a2 r2.words.length c2, b16 r2.at_, b16 r2.many] 36)) := below_two v2 _ _
    have hx2 : ((v2.alloc (.cells #[.slice q2.ca n2.coils.length q2.cc, .slice q2.ia n2.inputs.length q2.ic, .slice q2.ha n2.holding.length q2.hc, .slice q2.wa n2.words.length q2.wc] 28)).alloc (.cells #[b8 r2.fn, b8 r2.ex, .slice b2 r2.bits.length e2, .slice a2 r2.words.length c2, b16 r2.at_, b16 r2.many] 36)).heap[v2.heap.size]? = some (.cells #[.slice q2.ca n2.coils.length q2.cc, .slice q2.ia n2.inputs.length q2.ic, .slice q2.ha n2.holding.length q2.hc, .slice q2.wa n2.words.length q2.wc] 28 (0, 0)) := (Below.heap_alloc _ _ _ (by simp)).trans (heap_alloc_new v2 _)
    have hx3 := at_one v2 (.cells #[.slice q2.ca n2.coils.length q2.cc, .slice q2.ia n2.inputs.length q2.ic, .slice q2.ha n2.holding.length q2.hc, .slice q2.wa n2.words.length q2.wc] 28) (.cells #[b8 r2.fn, b8 r2.ex, .slice b2 r2.bits.length e2, .slice a2 r2.words.length c2, b16 r2.at_, b16 r2.many] 36)
    have KA := Lib.hid (KV2.out.1.on hx1)
    have KH := Lib.hid (((KV2.out.2.on hx1).cons hx2).cons hx3)
    have HM1 : Hid (MeAt ((v2.alloc (.cells #[.slice q2.ca n2.coils.length q2.cc, .slice q2.ia n2.inputs.length q2.ic, .slice q2.ha n2.holding.length q2.hc, .slice q2.wa n2.words.length q2.wc] 28)).alloc (.cells #[b8 r2.fn, b8 r2.ex, .slice b2 r2.bits.length e2, .slice a2 r2.words.length c2, b16 r2.at_, b16 r2.many] 36)) ((v2.alloc (.cells #[.slice q2.ca n2.coils.length q2.cc, .slice q2.ia n2.inputs.length q2.ic, .slice q2.ha n2.holding.length q2.hc, .slice q2.wa n2.words.length q2.wc] 28)).alloc (.cells #[b8 r2.fn, b8 r2.ex, .slice b2 r2.bits.length e2, .slice a2 r2.words.length c2, b16 r2.at_, b16 r2.many] 36)).heap.size n1 q1 ∧ RepAt ((v2.alloc (.cells #[.slice q2.ca n2.coils.length q2.cc, .slice q2.ia n2.inputs.length q2.ic, .slice q2.ha n2.holding.length q2.hc, .slice q2.wa n2.words.length q2.wc] 28)).alloc (.cells #[b8 r2.fn, b8 r2.ex, .slice b2 r2.bits.length e2, .slice a2 r2.words.length c2, b16 r2.at_, b16 r2.many] 36)) ((v2.alloc (.cells #[.slice q2.ca n2.coils.length q2.cc, .slice q2.ia n2.inputs.length q2.ic, .slice q2.ha n2.holding.length q2.hc, .slice q2.wa n2.words.length q2.wc] 28)).alloc (.cells #[b8 r2.fn, b8 r2.ex, .slice b2 r2.bits.length e2, .slice a2 r2.words.length c2, b16 r2.at_, b16 r2.many] 36)).heap.size r1 a1 c1 b1 e1) := Lib.hid ⟨HM2.out.1.on hx1, HM2.out.2.below hx1⟩
    clear HM2
    clear hme2 hrp2 hx1 hx2 hx3 KV2
    obtain ⟨n3, r3, hd3, hf3⟩ : ∃ n r, doN sX mX ⟨3, 2, 4, 0, [], []⟩ = (n, r) ∧ (r.ex = 2) := ⟨_, _, rfl, mex3⟩
    have HF3 := Lib.hid hf3
    have s0 : ((v2.alloc (.cells #[.slice q2.ca n2.coils.length q2.cc, .slice q2.ia n2.inputs.length q2.ic, .slice q2.ha n2.holding.length q2.hc, .slice q2.wa n2.words.length q2.wc] 28)).alloc (.cells #[b8 r2.fn, b8 r2.ex, .slice b2 r2.bits.length e2, .slice a2 r2.words.length c2, b16 r2.at_, b16 r2.many] 36)).cell? ⟨w.heap.size + 1 + 1, 0, none⟩ = some (.slice (some ⟨w.heap.size, 0, none⟩) 1 1) := cell_of_row _ _ _ _ _ _ KA.out.t1
    have s1 : ((v2.alloc (.cells #[.slice q2.ca n2.coils.length q2.cc, .slice q2.ia n2.inputs.length q2.ic, .slice q2.ha n2.holding.length q2.hc, .slice q2.wa n2.words.length q2.wc] 28)).alloc (.cells #[b8 r2.fn, b8 r2.ex, .slice b2 r2.bits.length e2, .slice a2 r2.words.length c2, b16 r2.at_, b16 r2.many] 36)).cell? ⟨w.heap.size + 1 + 1, 1, none⟩ = some (.slice none 0 0) := cell_of_row _ _ _ _ _ _ KA.out.t1
    have s2 : ((v2.alloc (.cells #[.slice q2.ca n2.coils.length q2.cc, .slice q2.ia n2.inputs.length q2.ic, .slice q2.ha n2.holding.length q2.hc, .slice q2.wa n2.words.length q2.wc] 28)).alloc (.cells #[b8 r2.fn, b8 r2.ex, .slice b2 r2.bits.length e2, .slice a2 r2.words.length c2, b16 r2.at_, b16 r2.many] 36)).cell? ⟨w.heap.size + 1 + 1, 2, none⟩ = some (.slice (some ⟨w.heap.size + 1, 0, none⟩) 2 2) := cell_of_row _ _ _ _ _ _ KA.out.t1
    have s3 : ((v2.alloc (.cells #[.slice q2.ca n2.coils.length q2.cc, .slice q2.ia n2.inputs.length q2.ic, .slice q2.ha n2.holding.length q2.hc, .slice q2.wa n2.words.length q2.wc] 28)).alloc (.cells #[b8 r2.fn, b8 r2.ex, .slice b2 r2.bits.length e2, .slice a2 r2.words.length c2, b16 r2.at_, b16 r2.many] 36)).cell? ⟨w.heap.size + 1 + 1, 3, none⟩ = some (.slice none 0 0) := cell_of_row _ _ _ _ _ _ KA.out.t1
    have g0 : ((v2.alloc (.cells #[.slice q2.ca n2.coils.length q2.cc, .slice q2.ia n2.inputs.length q2.ic, .slice q2.ha n2.holding.length q2.hc, .slice q2.wa n2.words.length q2.wc] 28)).alloc (.cells #[b8 r2.fn, b8 r2.ex, .slice b2 r2.bits.length e2, .slice a2 r2.words.length c2, b16 r2.at_, b16 r2.many] 36)).cell? ⟨W1.heap.size, 0, none⟩ = some (.slice (some ⟨W1.heap.size + 1 + 1, 0, none⟩) 10 10) := cell_of_row _ _ _ _ _ _ KA.out.t2
    have g1 : ((v2.alloc (.cells #[.slice q2.ca n2.coils.length q2.cc, .slice q2.ia n2.inputs.length q2.ic, .slice q2.ha n2.holding.length q2.hc, .slice q2.wa n2.words.length q2.wc] 28)).alloc (.cells #[b8 r2.fn, b8 r2.ex, .slice b2 r2.bits.length e2, .slice a2 r2.words.length c2, b16 r2.at_, b16 r2.many] 36)).cell? ⟨W1.heap.size, 1, none⟩ = some (.slice none 0 0) := cell_of_row _ _ _ _ _ _ KA.out.t2
    have g2 : ((v2.alloc (.cells #[.slice q2.ca n2.coils.length q2.cc, .slice q2.ia n2.inputs.length q2.ic, .slice q2.ha n2.holding.length q2.hc, .slice q2.wa n2.words.length q2.wc] 28)).alloc (.cells #[b8 r2.fn, b8 r2.ex, .slice b2 r2.bits.length e2, .slice a2 r2.words.length c2, b16 r2.at_, b16 r2.many] 36)).cell? ⟨W1.heap.size, 2, none⟩ = some (.slice (some ⟨W1.heap.size + 1, 0, none⟩) 8 8) := cell_of_row _ _ _ _ _ _ KA.out.t2
    have g3 : ((v2.alloc (.cells #[.slice q2.ca n2.coils.length q2.cc, .slice q2.ia n2.inputs.length q2.ic, .slice q2.ha n2.holding.length q2.hc, .slice q2.wa n2.words.length q2.wc] 28)).alloc (.cells #[b8 r2.fn, b8 r2.ex, .slice b2 r2.bits.length e2, .slice a2 r2.words.length c2, b16 r2.at_, b16 r2.many] 36)).cell? ⟨W1.heap.size, 3, none⟩ = some (.slice none 0 0) := cell_of_row _ _ _ _ _ _ KA.out.t2
    have KV := Lib.hid (And.intro KA.out KH.out)
    have HDO := Lib.hid (Do_at sX (pX w.heap.size) mX ⟨some ⟨W1.heap.size + 1 + 1, 0, none⟩, 10, none, 0, some ⟨W1.heap.size + 1, 0, none⟩, 8, none, 0⟩ ⟨3, 2, 4, 0, [], []⟩ none 0 none 0 ((v2.alloc (.cells #[.slice q2.ca n2.coils.length q2.cc, .slice q2.ia n2.inputs.length q2.ic, .slice q2.ha n2.holding.length q2.hc, .slice q2.wa n2.words.length q2.wc] 28)).alloc (.cells #[b8 r2.fn, b8 r2.ex, .slice b2 r2.bits.length e2, .slice a2 r2.words.length c2, b16 r2.at_, b16 r2.many] 36)) KV.out.1.sp KV.out.1.me mX_small ⟨Sl.none_, Sl.none_⟩ (by decide) (by decide))
    have HMV := HM1
    clear HM1
    rw [hd3] at HDO
    clear hd3 hf3 KA KH
    go_wp2_with fail
    generalize ((v2.alloc (.cells #[.slice q2.ca n2.coils.length q2.cc, .slice q2.ia n2.inputs.length q2.ic, .slice q2.ha n2.holding.length q2.hc, .slice q2.wa n2.words.length q2.wc] 28)).alloc (.cells #[b8 r2.fn, b8 r2.ex, .slice b2 r2.bits.length e2, .slice a2 r2.words.length c2, b16 r2.at_, b16 r2.many] 36)) = Z3 at *
    refine HDO.out.mono ?_
    rintro e v3 ⟨q3, a3, c3, b3, e3, rfl, hme3, hrp3, hb⟩
    have KV2 := Lib.hid (And.intro (KV.out.1.on hb) (KV.out.2.on hb))
    have HM2 := Lib.hid (And.intro (HMV.out.1.on hb) (HMV.out.2.below hb))
    clear HMV
    clear KV HDO hb s0 s1 s2 s3 g0 g1 g2 g3
    have hx1 : Below v3.heap.size v3 ((v3.alloc (.cells #[.slice q3.ca n3.coils.length q3.cc, .slice q3.ia n3.inputs.length q3.ic, .slice q3.ha n3.holding.length q3.hc, .slice q3.wa n3.words.length q3.wc] 28)).alloc (.cells #[b8 r3.fn, b8 r3.ex, .slice b3 r3.bits.length e3, .slice a3 r3.words.length c3, b16 r3.at_, b16 r3.many] 36)) := below_two v3 _ _
    have hx2 : ((v3.alloc (.cells #[.slice q3.ca n3.coils.length q3.cc, .slice q3.ia n3.inputs.length q3.ic, .slice q3.ha n3.holding.length q3.hc, .slice q3.wa n3.words.length q3.wc] 28)).alloc (.cells #[b8 r3.fn, b8 r3.ex, .slice b3 r3.bits.length e3, .slice a3 r3.words.length c3, b16 r3.at_, b16 r3.many] 36)).heap[v3.heap.size]? = some (.cells #[.slice q3.ca n3.coils.length q3.cc, .slice q3.ia n3.inputs.length q3.ic, .slice q3.ha n3.holding.length q3.hc, .slice q3.wa n3.words.length q3.wc] 28 (0, 0)) := (Below.heap_alloc _ _ _ (by simp)).trans (heap_alloc_new v3 _)
    have hx3 := at_one v3 (.cells #[.slice q3.ca n3.coils.length q3.cc, .slice q3.ia n3.inputs.length q3.ic, .slice q3.ha n3.holding.length q3.hc, .slice q3.wa n3.words.length q3.wc] 28) (.cells #[b8 r3.fn, b8 r3.ex, .slice b3 r3.bits.length e3, .slice a3 r3.words.length c3, b16 r3.at_, b16 r3.many] 36)
    have KA := Lib.hid (KV2.out.1.on hx1)
    have KH := Lib.hid (((KV2.out.2.on hx1).cons hx2).cons hx3)
    have HM1 : Hid (MeAt ((v3.alloc (.cells #[.slice q3.ca n3.coils.length q3.cc, .slice q3.ia n3.inputs.length q3.ic, .slice q3.ha n3.holding.length q3.hc, .slice q3.wa n3.words.length q3.wc] 28)).alloc (.cells #[b8 r3.fn, b8 r3.ex, .slice b3 r3.bits.length e3, .slice a3 r3.words.length c3, b16 r3.at_, b16 r3.many] 36)) ((v3.alloc (.cells #[.slice q3.ca n3.coils.length q3.cc, .slice q3.ia n3.inputs.length q3.ic, .slice q3.ha n3.holding.length q3.hc, .slice q3.wa n3.words.length q3.wc] 28)).alloc (.cells #[b8 r3.fn, b8 r3.ex, .slice b3 r3.bits.length e3, .slice a3 r3.words.length c3, b16 r3.at_, b16 r3.many] 36)).heap.size n1 q1 ∧ RepAt ((v3.alloc (.cells #[.slice q3.ca n3.coils.length q3.cc, .slice q3.ia n3.inputs.length q3.ic, .slice q3.ha n3.holding.length q3.hc, .slice q3.wa n3.words.length q3.wc] 28)).alloc (.cells #[b8 r3.fn, b8 r3.ex, .slice b3 r3.bits.length e3, .slice a3 r3.words.length c3, b16 r3.at_, b16 r3.many] 36)) ((v3.alloc (.cells #[.slice q3.ca n3.coils.length q3.cc, .slice q3.ia n3.inputs.length q3.ic, .slice q3.ha n3.holding.length q3.hc, .slice q3.wa n3.words.length q3.wc] 28)).alloc (.cells #[b8 r3.fn, b8 r3.ex, .slice b3 r3.bits.length e3, .slice a3 r3.words.length c3, b16 r3.at_, b16 r3.many] 36)).heap.size r1 a1 c1 b1 e1) := Lib.hid ⟨HM2.out.1.on hx1, HM2.out.2.below hx1⟩
    clear HM2
    clear hme3 hrp3 hx1 hx2 hx3 KV2
    obtain ⟨n4, r4, hd4, hf4⟩ : ∃ n r, doN sX mX ⟨1, 0, 10, 0, [], []⟩ = (n, r) ∧ (r.bits.length = 16) := ⟨_, _, rfl, mex4⟩
    have HF4 := Lib.hid hf4
    have s0 : ((v3.alloc (.cells #[.slice q3.ca n3.coils.length q3.cc, .slice q3.ia n3.inputs.length q3.ic, .slice q3.ha n3.holding.length q3.hc, .slice q3.wa n3.words.length q3.wc] 28)).alloc (.cells #[b8 r3.fn, b8 r3.ex, .slice b3 r3.bits.length e3, .slice a3 r3.words.length c3, b16 r3.at_, b16 r3.many] 36)).cell? ⟨w.heap.size + 1 + 1, 0, none⟩ = some (.slice (some ⟨w.heap.size, 0, none⟩) 1 1) := cell_of_row _ _ _ _ _ _ KA.out.t1
    have s1 : ((v3.alloc (.cells #[.slice q3.ca n3.coils.length q3.cc, .slice q3.ia n3.inputs.length q3.ic, .slice q3.ha n3.holding.length q3.hc, .slice q3.wa n3.words.length q3.wc] 28)).alloc (.cells #[b8 r3.fn, b8 r3.ex, .slice b3 r3.bits.length e3, .slice a3 r3.words.length c3, b16 r3.at_, b16 r3.many] 36)).cell? ⟨w.heap.size + 1 + 1, 1, none⟩ = some (.slice none 0 0) := cell_of_row _ _ _ _ _ _ KA.out.t1
    have s2 : ((v3.alloc (.cells #[.slice q3.ca n3.coils.length q3.cc, .slice q3.ia n3.inputs.length q3.ic, .slice q3.ha n3.holding.length q3.hc, .slice q3.wa n3.words.length q3.wc] 28)).alloc (.cells #[b8 r3.fn, b8 r3.ex, .slice b3 r3.bits.length e3, .slice a3 r3.words.length c3, b16 r3.at_, b16 r3.many] 36)).cell? ⟨w.heap.size + 1 + 1, 2, none⟩ = some (.slice (some ⟨w.heap.size + 1, 0, none⟩) 2 2) := cell_of_row _ _ _ _ _ _ KA.out.t1
    have s3 : ((v3.alloc (.cells #[.slice q3.ca n3.coils.length q3.cc, .slice q3.ia n3.inputs.length q3.ic, .slice q3.ha n3.holding.length q3.hc, .slice q3.wa n3.words.length q3.wc] 28)).alloc (.cells #[b8 r3.fn, b8 r3.ex, .slice b3 r3.bits.length e3, .slice a3 r3.words.length c3, b16 r3.at_, b16 r3.many] 36)).cell? ⟨w.heap.size + 1 + 1, 3, none⟩ = some (.slice none 0 0) := cell_of_row _ _ _ _ _ _ KA.out.t1
    have g0 : ((v3.alloc (.cells #[.slice q3.ca n3.coils.length q3.cc, .slice q3.ia n3.inputs.length q3.ic, .slice q3.ha n3.holding.length q3.hc, .slice q3.wa n3.words.length q3.wc] 28)).alloc (.cells #[b8 r3.fn, b8 r3.ex, .slice b3 r3.bits.length e3, .slice a3 r3.words.length c3, b16 r3.at_, b16 r3.many] 36)).cell? ⟨W1.heap.size, 0, none⟩ = some (.slice (some ⟨W1.heap.size + 1 + 1, 0, none⟩) 10 10) := cell_of_row _ _ _ _ _ _ KA.out.t2
    have g1 : ((v3.alloc (.cells #[.slice q3.ca n3.coils.length q3.cc, .slice q3.ia n3.inputs.length q3.ic, .slice q3.ha n3.holding.length q3.hc, .slice q3.wa n3.words.length q3.wc] 28)).alloc (.cells #[b8 r3.fn, b8 r3.ex, .slice b3 r3.bits.length e3, .slice a3 r3.words.length c3, b16 r3.at_, b16 r3.many] 36)).cell? ⟨W1.heap.size, 1, none⟩ = some (.slice none 0 0) := cell_of_row _ _ _ _ _ _ KA.out.t2
    have g2 : ((v3.alloc (.cells #[.slice q3.ca n3.coils.length q3.cc, .slice q3.ia n3.inputs.length q3.ic, .slice q3.ha n3.holding.length q3.hc, .slice q3.wa n3.words.length q3.wc] 28)).alloc (.cells #[b8 r3.fn, b8 r3.ex, .slice b3 r3.bits.length e3, .slice a3 r3.words.length c3, b16 r3.at_, b16 r3.many] 36)).cell? ⟨W1.heap.size, 2, none⟩ = some (.slice (some ⟨W1.heap.size + 1, 0, none⟩) 8 8) := cell_of_row _ _ _ _ _ _ KA.out.t2
    have g3 : ((v3.alloc (.cells #[.slice q3.ca n3.coils.length q3.cc, .slice q3.ia n3.inputs.length q3.ic, .slice q3.ha n3.holding.length q3.hc, .slice q3.wa n3.words.length q3.wc] 28)).alloc (.cells #[b8 r3.fn, b8 r3.ex, .slice b3 r3.bits.length e3, .slice a3 r3.words.length c3, b16 r3.at_, b16 r3.many] 36)).cell? ⟨W1.heap.size, 3, none⟩ = some (.slice none 0 0) := cell_of_row _ _ _ _ _ _ KA.out.t2
    have KV := Lib.hid (And.intro KA.out KH.out)
    have HDO := Lib.hid (Do_at sX (pX w.heap.size) mX ⟨some ⟨W1.heap.size + 1 + 1, 0, none⟩, 10, none, 0, some ⟨W1.heap.size + 1, 0, none⟩, 8, none, 0⟩ ⟨1, 0, 10, 0, [], []⟩ none 0 none 0 ((v3.alloc (.cells #[.slice q3.ca n3.coils.length q3.cc, .slice q3.ia n3.inputs.length q3.ic, .slice q3.ha n3.holding.length q3.hc, .slice q3.wa n3.words.length q3.wc] 28)).alloc (.cells #[b8 r3.fn, b8 r3.ex, .slice b3 r3.bits.length e3, .slice a3 r3.words.length c3, b16 r3.at_, b16 r3.many] 36)) KV.out.1.sp KV.out.1.me mX_small ⟨Sl.none_, Sl.none_⟩ (by decide) (by decide))
    have HMV := HM1
    clear HM1
    rw [hd4] at HDO
    clear hd4 hf4 KA KH
    go_wp2_with fail
    generalize ((v3.alloc (.cells #[.slice q3.ca n3.coils.length q3.cc, .slice q3.ia n3.inputs.length q3.ic, .slice q3.ha n3.holding.length q3.hc, .slice q3.wa n3.words.length q3.wc] 28)).alloc (.cells #[b8 r3.fn, b8 r3.ex, .slice b3 r3.bits.length e3, .slice a3 r3.words.length c3, b16 r3.at_, b16 r3.many] 36)) = Z4 at *
    refine HDO.out.mono ?_
    rintro e v4 ⟨q4, a4, c4, b4, e4, rfl, hme4, hrp4, hb⟩
    have KV2 := Lib.hid (And.intro (KV.out.1.on hb) (KV.out.2.on hb))
    have HM2 := Lib.hid (And.intro (HMV.out.1.on hb) (HMV.out.2.below hb))
    clear HMV
    clear KV HDO hb s0 s1 s2 s3 g0 g1 g2 g3
    have hx1 : Below v4.heap.size v4 ((v4.alloc (.cells #[.slice q4.ca n4.coils.length q4.cc, .slice q4.ia n4.inputs.length q4.ic, .slice q4.ha n4.holding.length q4.hc, .slice q4.wa n4.words.length q4.wc] 28)).alloc (.cells #[b8 r4.fn, b8 r4.ex, .slice b4 r4.bits.length e4, .slice a4 r4.words.length c4, b16 r4.at_, b16 r4.many] 36)) := below_two v4 _ _
    have hx2 : ((v4.alloc (.cells #[.slice q4.ca n4.coils.length q4.cc, .slice q4.ia n4.inputs.length q4.ic, .slice q4.ha n4.holding.length q4.hc, .slice q4.wa n4.words.length q4.wc] 28)).alloc (.cells #[b8 r4.fn, b8 r4.ex, .slice b4 r4.bits.length e4, .slice a4 r4.words.length c4, b16 r4.at_, b16 r4.many] 36)).heap[v4.heap.size]? = some (.cells #[.slice q4.ca n4.coils.length q4.cc, .slice q4.ia n4.inputs.length q4.ic, .slice q4.ha n4.holding.length q4.hc, .slice q4.wa n4.words.length q4.wc] 28 (0, 0)) := (Below.heap_alloc _ _ _ (by simp)).trans (heap_alloc_new v4 _)
    have hx3 := at_one v4 (.cells #[.slice q4.ca n4.coils.length q4.cc, .slice q4.ia n4.inputs.length q4.ic, .slice q4.ha n4.holding.length q4.hc, .slice q4.wa n4.words.length q4.wc] 28) (.cells #[b8 r4.fn, b8 r4.ex, .slice b4 r4.bits.length e4, .slice a4 r4.words.length c4, b16 r4.at_, b16 r4.many] 36)
    have KA := Lib.hid (KV2.out.1.on hx1)
    have KH := Lib.hid (((KV2.out.2.on hx1).cons hx2).cons hx3)
    have HM1 : Hid (MeAt ((v4.alloc (.cells #[.slice q4.ca n4.coils.length q4.cc, .slice q4.ia n4.inputs.length q4.ic, .slice q4.ha n4.holding.length q4.hc, .slice q4.wa n4.words.length q4.wc] 28)).alloc (.cells #[b8 r4.fn, b8 r4.ex, .slice b4 r4.bits.length e4, .slice a4 r4.words.length c4, b16 r4.at_, b16 r4.many] 36)) ((v4.alloc (.cells #[.slice q4.ca n4.coils.length q4.cc, .slice q4.ia n4.inputs.length q4.ic, .slice q4.ha n4.holding.length q4.hc, .slice q4.wa n4.words.length q4.wc] 28)).alloc (.cells #[b8 r4.fn, b8 r4.ex, .slice b4 r4.bits.length e4, .slice a4 r4.words.length c4, b16 r4.at_, b16 r4.many] 36)).heap.size n1 q1 ∧ RepAt ((v4.alloc (.cells #[.slice q4.ca n4.coils.length q4.cc, .slice q4.ia n4.inputs.length q4.ic, .slice q4.ha n4.holding.length q4.hc, .slice q4.wa n4.words.length q4.wc] 28)).alloc (.cells #[b8 r4.fn, b8 r4.ex, .slice b4 r4.bits.length e4, .slice a4 r4.words.length c4, b16 r4.at_, b16 r4.many] 36)) ((v4.alloc (.cells #[.slice q4.ca n4.coils.length q4.cc, .slice q4.ia n4.inputs.length q4.ic, .slice q4.ha n4.holding.length q4.hc, .slice q4.wa n4.words.length q4.wc] 28)).alloc (.cells #[b8 r4.fn, b8 r4.ex, .slice b4 r4.bits.length e4, .slice a4 r4.words.length c4, b16 r4.at_, b16 r4.many] 36)).heap.size r1 a1 c1 b1 e1) := Lib.hid ⟨HM2.out.1.on hx1, HM2.out.2.below hx1⟩
    clear HM2
    clear hme4 hrp4 hx1 hx2 hx3 KV2
    have s0 : ((v4.alloc (.cells #[.slice q4.ca n4.coils.length q4.cc, .slice q4.ia n4.inputs.length q4.ic, .slice q4.ha n4.holding.length q4.hc, .slice q4.wa n4.words.length q4.wc] 28)).alloc (.cells #[b8 r4.fn, b8 r4.ex, .slice b4 r4.bits.length e4, .slice a4 r4.words.length c4, b16 r4.at_, b16 r4.many] 36)).cell? ⟨w.heap.size + 1 + 1, 0, none⟩ = some (.slice (some ⟨w.heap.size, 0, none⟩) 1 1) := cell_of_row _ _ _ _ _ _ KA.out.t1
    have s1 : ((v4.alloc (.cells #[.slice q4.ca n4.coils.length q4.cc, .slice q4.ia n4.inputs.length q4.ic, .slice q4.ha n4.holding.length q4.hc, .slice q4.wa n4.words.length q4.wc] 28)).alloc (.cells #[b8 r4.fn, b8 r4.ex, .slice b4 r4.bits.length e4, .slice a4 r4.words.length c4, b16 r4.at_, b16 r4.many] 36)).cell? ⟨w.heap.size + 1 + 1, 1, none⟩ = some (.slice none 0 0) := cell_of_row _ _ _ _ _ _ KA.out.t1
    have s2 : ((v4.alloc (.cells #[.slice q4.ca n4.coils.length q4.cc, .slice q4.ia n4.inputs.length q4.ic, .slice q4.ha n4.holding.length q4.hc, .slice q4.wa n4.words.length q4.wc] 28)).alloc (.cells #[b8 r4.fn, b8 r4.ex, .slice b4 r4.bits.length e4, .slice a4 r4.words.length c4, b16 r4.at_, b16 r4.many] 36)).cell? ⟨w.heap.size + 1 + 1, 2, none⟩ = some (.slice (some ⟨w.heap.size + 1, 0, none⟩) 2 2) := cell_of_row _ _ _ _ _ _ KA.out.t1
    have s3 : ((v4.alloc (.cells #[.slice q4.ca n4.coils.length q4.cc, .slice q4.ia n4.inputs.length q4.ic, .slice q4.ha n4.holding.length q4.hc, .slice q4.wa n4.words.length q4.wc] 28)).alloc (.cells #[b8 r4.fn, b8 r4.ex, .slice b4 r4.bits.length e4, .slice a4 r4.words.length c4, b16 r4.at_, b16 r4.many] 36)).cell? ⟨w.heap.size + 1 + 1, 3, none⟩ = some (.slice none 0 0) := cell_of_row _ _ _ _ _ _ KA.out.t1
    have g0 : ((v4.alloc (.cells #[.slice q4.ca n4.coils.length q4.cc, .slice q4.ia n4.inputs.length q4.ic, .slice q4.ha n4.holding.length q4.hc, .slice q4.wa n4.words.length q4.wc] 28)).alloc (.cells #[b8 r4.fn, b8 r4.ex, .slice b4 r4.bits.length e4, .slice a4 r4.words.length c4, b16 r4.at_, b16 r4.many] 36)).cell? ⟨W1.heap.size, 0, none⟩ = some (.slice (some ⟨W1.heap.size + 1 + 1, 0, none⟩) 10 10) := cell_of_row _ _ _ _ _ _ KA.out.t2
    have g1 : ((v4.alloc (.cells #[.slice q4.ca n4.coils.length q4.cc, .slice q4.ia n4.inputs.length q4.ic, .slice q4.ha n4.holding.length q4.hc, .slice q4.wa n4.words.length q4.wc] 28)).alloc (.cells #[b8 r4.fn, b8 r4.ex, .slice b4 r4.bits.length e4, .slice a4 r4.words.length c4, b16 r4.at_, b16 r4.many] 36)).cell? ⟨W1.heap.size, 1, none⟩ = some (.slice none 0 0) := cell_of_row _ _ _ _ _ _ KA.out.t2
    have g2 : ((v4.alloc (.cells #[.slice q4.ca n4.coils.length q4.cc, .slice q4.ia n4.inputs.length q4.ic, .slice q4.ha n4.holding.length q4.hc, .slice q4.wa n4.words.length q4.wc] 28)).alloc (.cells #[b8 r4.fn, b8 r4.ex, .slice b4 r4.bits.length e4, .slice a4 r4.words.length c4, b16 r4.at_, b16 r4.many] 36)).cell? ⟨W1.heap.size, 2, none⟩ = some (.slice (some ⟨W1.heap.size + 1, 0, none⟩) 8 8) := cell_of_row _ _ _ _ _ _ KA.out.t2
    have g3 : ((v4.alloc (.cells #[.slice q4.ca n4.coils.length q4.cc, .slice q4.ia n4.inputs.length q4.ic, .slice q4.ha n4.holding.length q4.hc, .slice q4.wa n4.words.length q4.wc] 28)).alloc (.cells #[b8 r4.fn, b8 r4.ex, .slice b4 r4.bits.length e4, .slice a4 r4.words.length c4, b16 r4.at_, b16 r4.many] 36)).cell? ⟨W1.heap.size, 3, none⟩ = some (.slice none 0 0) := cell_of_row _ _ _ _ _ _ KA.out.t2
    have HRI := Lib.hid (MRight_any sX mX (pX w.heap.size) ⟨some ⟨W1.heap.size + 1 + 1, 0, none⟩, 10, none, 0, some ⟨W1.heap.size + 1, 0, none⟩, 8, none, 0⟩ ((v4.alloc (.cells #[.slice q4.ca n4.coils.length q4.cc, .slice q4.ia n4.inputs.length q4.ic, .slice q4.ha n4.holding.length q4.hc, .slice q4.wa n4.words.length q4.wc] 28)).alloc (.cells #[b8 r4.fn, b8 r4.ex, .slice b4 r4.bits.length e4, .slice a4 r4.words.length c4, b16 r4.at_, b16 r4.many] 36)) KA.out.sp KA.out.me mX_small)
    rw [mex5] at HRI
    go_wp2_with fail
    generalize ((v4.alloc (.cells #[.slice q4.ca n4.coils.length q4.cc, .slice q4.ia n4.inputs.length q4.ic, .slice q4.ha n4.holding.length q4.hc, .slice q4.wa n4.words.length q4.wc] 28)).alloc (.cells #[b8 r4.fn, b8 r4.ex, .slice b4 r4.bits.length e4, .slice a4 r4.words.length c4, b16 r4.at_, b16 r4.many] 36)) = Z5 at *
    refine HRI.out.mono ?_
    rintro e z1 ⟨rfl, hb⟩
    have KZ := Lib.hid (And.intro (KA.out.below.trans (hb.mono KA.out.below.size)) (And.intro (KH.out.on hb) (And.intro (HM1.out.1.on hb) (HM1.out.2.below hb))))
    clear hb KA KH HM1 HRI s0 s1 s2 s3 g0 g1 g2 g3
    obtain ⟨hl, hi, hr⟩ := HF1.out
    subst hr
    obtain ⟨xb7, xo7, x7, hq7, -, hx7, hc7⟩ := KZ.out.2.2.1.holding.at_ (k := 7) (by omega)
    have h7 : x7 = 4 := by rw [hi] at hx7; injection hx7 with hx7; exact hx7.symm
    subst h7
    have u2 : z1.cell? ⟨v1.heap.size, 2, none⟩ = some (.slice q1.ha n1.holding.length q1.hc) := cell_of_row _ _ _ _ _ _ (KZ.out.2.1 (v1.heap.size, #[.slice q1.ca n1.coils.length q1.cc, .slice q1.ia n1.inputs.length q1.ic, .slice q1.ha n1.holding.length q1.hc, .slice q1.wa n1.words.length q1.wc], 28) (by simp))
    have y0 : z1.cell? ⟨v1.heap.size + 1, 0, none⟩ = some (b8 16) := cell_of_row _ _ _ _ _ _ (KZ.out.2.1 (v1.heap.size + 1, #[b8 16, b8 0, .slice b1 0 e1, .slice a1 0 c1, b16 4, b16 4], 36) (by simp))
    have y1 : z1.cell? ⟨v1.heap.size + 1, 1, none⟩ = some (b8 0) := cell_of_row _ _ _ _ _ _ (KZ.out.2.1 (v1.heap.size + 1, #[b8 16, b8 0, .slice b1 0 e1, .slice a1 0 c1, b16 4, b16 4], 36) (by simp))
    have y2 : z1.cell? ⟨v1.heap.size + 1, 2, none⟩ = some (.slice b1 0 e1) := cell_of_row _ _ _ _ _ _ (KZ.out.2.1 (v1.heap.size + 1, #[b8 16, b8 0, .slice b1 0 e1, .slice a1 0 c1, b16 4, b16 4], 36) (by simp))
    have y3 : z1.cell? ⟨v1.heap.size + 1, 3, none⟩ = some (.slice a1 0 c1) := cell_of_row _ _ _ _ _ _ (KZ.out.2.1 (v1.heap.size + 1, #[b8 16, b8 0, .slice b1 0 e1, .slice a1 0 c1, b16 4, b16 4], 36) (by simp))
    have y4 : z1.cell? ⟨v1.heap.size + 1, 4, none⟩ = some (b16 4) := cell_of_row _ _ _ _ _ _ (KZ.out.2.1 (v1.heap.size + 1, #[b8 16, b8 0, .slice b1 0 e1, .slice a1 0 c1, b16 4, b16 4], 36) (by simp))
    have y5 : z1.cell? ⟨v1.heap.size + 1, 5, none⟩ = some (b16 4) := cell_of_row _ _ _ _ _ _ (KZ.out.2.1 (v1.heap.size + 1, #[b8 16, b8 0, .slice b1 0 e1, .slice a1 0 c1, b16 4, b16 4], 36) (by simp))
    rw [hq7, hl] at u2
    have hcm := len_le KZ.out.2.2.1.holding
    have HSM := Lib.hid (RSame_any ⟨16, 0, [], [], 4, 4⟩ ⟨16, 0, [], [], 4, 4⟩ a1 c1 b1 e1 none 0 none 0 z1 KZ.out.2.2.2 (RepAt.nil rfl rfl))
    rw [decide_eq_true rfl] at HSM
    clear hl hi hx7
    go_wp2_with fail
    refine HSM.out.mono ?_
    rintro e z2 ⟨rfl, hb⟩
    have KZ2 := Lib.hid (And.intro (KZ.out.1.trans (hb.mono KZ.out.1.size)) (KZ.out.2.1.on hb))
    clear hb KZ HSM u2 y0 y1 y2 y3 y4 y5 hc7
    have p2 : z2.cell? ⟨v2.heap.size + 1, 1, none⟩ = some (b8 r2.ex) := cell_of_row _ _ _ _ _ _ (KZ2.out.2 (v2.heap.size + 1, #[b8 r2.fn, b8 r2.ex, .slice b2 r2.bits.length e2, .slice a2 r2.words.length c2, b16 r2.at_, b16 r2.many], 36) (by simp))
    rw [HF2.out] at p2
    have p3 : z2.cell? ⟨v3.heap.size + 1, 1, none⟩ = some (b8 r3.ex) := cell_of_row _ _ _ _ _ _ (KZ2.out.2 (v3.heap.size + 1, #[b8 r3.fn, b8 r3.ex, .slice b3 r3.bits.length e3, .slice a3 r3.words.length c3, b16 r3.at_, b16 r3.many], 36) (by simp))
    rw [HF3.out] at p3
    have p4 : z2.cell? ⟨v4.heap.size + 1, 2, none⟩ = some (.slice b4 r4.bits.length e4) := cell_of_row _ _ _ _ _ _ (KZ2.out.2 (v4.heap.size + 1, #[b8 r4.fn, b8 r4.ex, .slice b4 r4.bits.length e4, .slice a4 r4.words.length c4, b16 r4.at_, b16 r4.many], 36) (by simp))
    rw [HF4.out] at p4
    go_wp2_with fail
    go_ret
    exact Says.mk KZ2.out.1
end Go.Proofs.Ytamdpinfbadflaa.ModW

