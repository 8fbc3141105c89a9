/- Function 23 is function 16, and function 3 behind it: the walk. -/
import Derived.Test.YtboofgigmaabhaaModP
import Derived.Test.YtboofgigmaabhaaModR
open Go.RowKit
namespace Go.Proofs.Ytboofgigmaabhaa.ModW
open AskM ReplyM ModM Mem AskW ReplyW

/-- A law's boxes of a space and a memory, and what has been laid behind. -/
structure SW (w W : World) (S M : Array Value) (l : List (Nat × Array Value × TypeId)) : Prop where
  below : Below w.heap.size w W
  s : W.heap[w.heap.size]? = some (.cells S 24 (0, 0))
  m : W.heap[w.heap.size + 1]? = some (.cells M 28 (0, 0))
  has : Has W l
theorem SW.on {w W W' : World} {S M : Array Value} {l : List (Nat × Array Value × TypeId)} (h : SW w W S M l) (hb : Below W.heap.size W W') : SW w W' S M l :=
  ⟨h.below.trans (hb.mono h.below.size), row_cell h.s hb, row_cell h.m hb, h.has.on hb⟩
theorem SW.two {w W : World} {S M : Array Value} {l : List (Nat × Array Value × TypeId)} (h : SW w W S M l) (c1 c2 : Array Value) (t1 t2 : TypeId) : SW w ((W.alloc (.cells c1 t1)).alloc (.cells c2 t2)) S M ((W.heap.size + 1, c2, t2) :: (W.heap.size, c1, t1) :: l) := by
  have hb := below_two W (.cells c1 t1) (.cells c2 t2)
  have h1 : ((W.alloc (.cells c1 t1)).alloc (.cells c2 t2)).heap[W.heap.size]? = some (.cells c1 t1 (0, 0)) := (Below.heap_alloc _ _ _ (by simp)).trans (heap_alloc_new W _)
  have h' := h.on hb
  exact ⟨h'.below, h'.s, h'.m, (h'.has.cons h1).cons (at_one W _ _)⟩
theorem SW.new (w : World) (S M : Array Value) : SW w ((w.alloc (.cells S 24)).alloc (.cells M 28)) S M [] :=
  ⟨below_two w _ _, (Below.heap_alloc _ _ _ (by simp)).trans (heap_alloc_new w _), at_one w _ _, fun x hx => by cases hx⟩
theorem SW.at_ {w W : World} {S M : Array Value} {l : List (Nat × Array Value × TypeId)} (h : SW w W S M l) {g : Nat} {c : Array Value} {t : TypeId} (hx : (g, c, t) ∈ l) : W.heap[g]? = some (.cells c t (0, 0)) := h.has _ hx

set_option maxRecDepth 100000 in
set_option maxHeartbeats 4000000 in
theorem ModelSwap_walk (s : Sp) (p : Pl) (m : Me) (p2 : Pl) (at_ many to_ : Nat) (ap : Option Addr) (n cp : Nat) (l : List UInt16) (w : World) (hS : SpAt w w.heap.size s p) (hM : MeAt w w.heap.size m p2) (hat : at_ < 65536) (hmany : many < 65536) (hto : to_ < 65536) (hL : Sl b16 w w.heap.size ap n cp l) :
    Calls Try.prog 5 #[spV s p, meV m p2, .int .u16 (at_ : Int), .int .u16 (many : Int), .int .u16 (to_ : Int), .slice ap n cp] w fun e w' => e = .returned (.bool true) ∧ Below w.heap.size w w' := by
  obtain ⟨A, rfl⟩ : ∃ A : UInt16, at_ = A.toNat := ⟨UInt16.ofNat at_, by simp; omega⟩
  obtain ⟨N, rfl⟩ : ∃ A : UInt16, many = A.toNat := ⟨UInt16.ofNat many, by simp; omega⟩
  obtain ⟨O, rfl⟩ : ∃ A : UInt16, to_ = A.toNat := ⟨UInt16.ofNat to_, by simp; omega⟩
  obtain rfl := hL.len
  have hlen := len_le hL
  have HLI := Lib.hid (fun W (h : Below w.heap.size w W) => Light_any s p m p2 W (hS.on h) (hM.on h))
  have HRI := Lib.hid (fun W (h : Below w.heap.size w W) (hm : MeSmall m) => MRight_any s m p p2 W (hS.on h) (hM.on h) hm)
  have HAW := Lib.hid awake_any
  have HSP := Lib.hid (fun W (h : Below w.heap.size w W) => hS.on h)
  have HME := Lib.hid (fun W (h : Below w.heap.size w W) => hM.on h)
  have HWO := Lib.hid (fun W (h : Below w.heap.size w W) => sl_on hL h)
  obtain ⟨ca, cc, ia, ic, ha, hc, wa, wc⟩ := p
  obtain ⟨da, dc, ja, jc, ka, kc, xa, xc⟩ := p2
  have hsw := SW.new w (#[.slice ca s.coils.length cc, .slice ia s.inputs.length ic, .slice ha s.holding.length hc, .slice wa s.words.length wc]) (#[.slice da m.coils.length dc, .slice ja m.inputs.length jc, .slice ka m.holding.length kc, .slice xa m.words.length xc])
  clear hS hM hL hat hmany hto
  go_enter Try.func5, Try.ntmps5
  go_wp2_with fail
  generalize (w.alloc (.cells #[.slice ca s.coils.length cc, .slice ia s.inputs.length ic, .slice ha s.holding.length hc, .slice wa s.words.length wc] 24)).alloc (.cells #[.slice da m.coils.length dc, .slice ja m.inputs.length jc, .slice ka m.holding.length kc, .slice xa m.words.length xc] 28) = W0 at *
  have K0 := Lib.hid hsw
  clear hsw
  refine (HLI.out W0 K0.out.below).mono ?_
  rintro e w1 ⟨r, rfl, hlight, hb⟩
  have HML := Lib.hid hlight
  have K1 := Lib.hid (K0.out.on hb)
  clear hb K0 HLI hlight
  cases r
  case false =>
    go_wp2_with fail
    refine (HAW.out _).mono ?_
    rintro e w2 ⟨rfl, hb⟩
    have K2 := Lib.hid (K1.out.on hb)
    go_wp2_with fail
    go_ret
    exact ⟨rfl, K2.out.below⟩
  have HLT := Lib.hid (HML.out rfl)
  clear HML
  by_cases h0 : l.length = 0
  · have t0 : ((l.length : Int) == 0) = true := beq_iff_eq.2 (by omega)
    clear h0
    go_wp2_with fail
    refine (HAW.out _).mono ?_
    rintro e w2 ⟨rfl, hb⟩
    have K2 := Lib.hid (K1.out.on hb)
    go_wp2_with fail
    go_ret
    exact ⟨rfl, K2.out.below⟩
  have t0 : ((l.length : Int) == 0) = false := beq_eq_false_iff_ne.2 (by omega)
  by_cases h1 : 121 < l.length
  · have t1 : decide ((121 : Int) < (l.length : Int)) = true := by simp; omega
    clear h0 h1
    go_wp2_with fail
    refine (HAW.out _).mono ?_
    rintro e w2 ⟨rfl, hb⟩
    have K2 := Lib.hid (K1.out.on hb)
    go_wp2_with fail
    go_ret
    exact ⟨rfl, K2.out.below⟩
  have t1 : decide ((121 : Int) < (l.length : Int)) = false := by simp; omega

  have s0 : w1.cell? ⟨w.heap.size, 0, none⟩ = some (.slice ca s.coils.length cc) := cell_of_row _ _ _ _ _ _ K1.out.s
  have s1 : w1.cell? ⟨w.heap.size, 1, none⟩ = some (.slice ia s.inputs.length ic) := cell_of_row _ _ _ _ _ _ K1.out.s
  have s2 : w1.cell? ⟨w.heap.size, 2, none⟩ = some (.slice ha s.holding.length hc) := cell_of_row _ _ _ _ _ _ K1.out.s
  have s3 : w1.cell? ⟨w.heap.size, 3, none⟩ = some (.slice wa s.words.length wc) := cell_of_row _ _ _ _ _ _ K1.out.s
  have g0 : w1.cell? ⟨w.heap.size + 1, 0, none⟩ = some (.slice da m.coils.length dc) := cell_of_row _ _ _ _ _ _ K1.out.m
  have g1 : w1.cell? ⟨w.heap.size + 1, 1, none⟩ = some (.slice ja m.inputs.length jc) := cell_of_row _ _ _ _ _ _ K1.out.m
  have g2 : w1.cell? ⟨w.heap.size + 1, 2, none⟩ = some (.slice ka m.holding.length kc) := cell_of_row _ _ _ _ _ _ K1.out.m
  have g3 : w1.cell? ⟨w.heap.size + 1, 3, none⟩ = some (.slice xa m.words.length xc) := cell_of_row _ _ _ _ _ _ K1.out.m
  go_wp2_with fail
  refine (HRI.out w1 K1.out.below HLT.out.small).mono ?_
  rintro e w2 ⟨rfl, hb⟩
  have K2 := Lib.hid (K1.out.on hb)
  clear hb K1 HRI s0 s1 s2 s3 g0 g1 g2 g3
  cases hrr : mrightN s m
  case false =>
    clear hrr
    go_wp2_with fail
    refine (HAW.out _).mono ?_
    rintro e w3 ⟨rfl, hb⟩
    have K3 := Lib.hid (K2.out.on hb)
    go_wp2_with fail
    go_ret
    exact ⟨rfl, K3.out.below⟩
  have HRR := Lib.hid hrr
  clear hrr
  obtain ⟨nA, rA, hdA⟩ : ∃ n r, doN s m ⟨23, A, N, O, l, []⟩ = (n, r) := ⟨_, _, rfl⟩
  obtain ⟨kk, hkk⟩ : ∃ kk : UInt16, kk.toNat = l.length := ⟨UInt16.ofNat l.length, by simp; omega⟩
  obtain ⟨nB, rB, hdB⟩ : ∃ n r, doN s m ⟨16, O, kk, 0, l, []⟩ = (n, r) := ⟨_, _, rfl⟩
  obtain ⟨nC, rC, hdC⟩ : ∃ n r, doN s nB ⟨3, A, N, 0, [], []⟩ = (n, r) := ⟨_, _, rfl⟩
  have HFA := Lib.hid (swap_facts s m A N O kk l hkk (by omega) (by omega) HRR.out hdA hdB hdC)
  have hsmB : MeSmall nB := by
    have h := do_small HLT.out.small s ⟨16, O, kk, 0, l, []⟩
    rw [hdB] at h; exact h
  have HSB := Lib.hid hsmB
  have HDA := Lib.hid (fun W (h : Below w.heap.size w W) => Do_at s ⟨ca, cc, ia, ic, ha, hc, wa, wc⟩ m ⟨da, dc, ja, jc, ka, kc, xa, xc⟩ ⟨23, A, N, O, l, []⟩ ap cp none 0 W (HSP.out W h) (HME.out W h) HLT.out.small ⟨HWO.out W h, Sl.none_⟩ (by show l.length ≤ _; omega) (by simp))
  have HDB := Lib.hid (fun W (h : Below w.heap.size w W) => Do_at s ⟨ca, cc, ia, ic, ha, hc, wa, wc⟩ m ⟨da, dc, ja, jc, ka, kc, xa, xc⟩ ⟨16, O, kk, 0, l, []⟩ ap cp none 0 W (HSP.out W h) (HME.out W h) HLT.out.small ⟨HWO.out W h, Sl.none_⟩ (by show l.length ≤ _; omega) (by simp))
  have HDC := Lib.hid (fun q W (h : Below w.heap.size w W) (hq : MeAt W W.heap.size nB q) => Do_at s ⟨ca, cc, ia, ic, ha, hc, wa, wc⟩ nB q ⟨3, A, N, 0, [], []⟩ none 0 none 0 W (HSP.out W h) hq HSB.out ⟨Sl.none_, Sl.none_⟩ (by simp) (by simp))
  rw [hdA] at HDA
  rw [hdB] at HDB
  rw [hdC] at HDC
  have hkw : IntKind.u16.wrap (l.length : Int) = (kk.toNat : Int) := by rw [hkk]; simp [IntKind.wrap, IntKind.bits, IntKind.signed]; omega
  clear hdA hdB hdC hsmB

  have s0 : w2.cell? ⟨w.heap.size, 0, none⟩ = some (.slice ca s.coils.length cc) := cell_of_row _ _ _ _ _ _ K2.out.s
  have s1 : w2.cell? ⟨w.heap.size, 1, none⟩ = some (.slice ia s.inputs.length ic) := cell_of_row _ _ _ _ _ _ K2.out.s
  have s2 : w2.cell? ⟨w.heap.size, 2, none⟩ = some (.slice ha s.holding.length hc) := cell_of_row _ _ _ _ _ _ K2.out.s
  have s3 : w2.cell? ⟨w.heap.size, 3, none⟩ = some (.slice wa s.words.length wc) := cell_of_row _ _ _ _ _ _ K2.out.s
  have g0 : w2.cell? ⟨w.heap.size + 1, 0, none⟩ = some (.slice da m.coils.length dc) := cell_of_row _ _ _ _ _ _ K2.out.m
  have g1 : w2.cell? ⟨w.heap.size + 1, 1, none⟩ = some (.slice ja m.inputs.length jc) := cell_of_row _ _ _ _ _ _ K2.out.m
  have g2 : w2.cell? ⟨w.heap.size + 1, 2, none⟩ = some (.slice ka m.holding.length kc) := cell_of_row _ _ _ _ _ _ K2.out.m
  have g3 : w2.cell? ⟨w.heap.size + 1, 3, none⟩ = some (.slice xa m.words.length xc) := cell_of_row _ _ _ _ _ _ K2.out.m
  have hkk2 := hkk
  clear hkk
  have HKK := Lib.hid hkk2
  clear hkk2
  go_wp2_with fail
  refine (HDA.out w2 K2.out.below).mono ?_
  rintro e w3 ⟨qA, aA, cA, bA, eA, rfl, hmA, hrA, hb⟩
  have K3 := Lib.hid ((K2.out.on hb).two (#[.slice qA.ca nA.coils.length qA.cc, .slice qA.ia nA.inputs.length qA.ic, .slice qA.ha nA.holding.length qA.hc, .slice qA.wa nA.words.length qA.wc]) (#[b8 rA.fn, b8 rA.ex, .slice bA rA.bits.length eA, .slice aA rA.words.length cA, b16 rA.at_, b16 rA.many]) 28 36)
  have hb3 := below_two w3 (.cells #[.slice qA.ca nA.coils.length qA.cc, .slice qA.ia nA.inputs.length qA.ic, .slice qA.ha nA.holding.length qA.hc, .slice qA.wa nA.words.length qA.wc] 28) (.cells #[b8 rA.fn, b8 rA.ex, .slice bA rA.bits.length eA, .slice aA rA.words.length cA, b16 rA.at_, b16 rA.many] 36)
  have HA3 := Lib.hid (And.intro (hmA.on hb3) (hrA.below hb3))
  clear hb K2 HDA hmA hrA hb3 s0 s1 s2 s3 g0 g1 g2 g3
  have s0 : ((w3.alloc (.cells #[.slice qA.ca nA.coils.length qA.cc, .slice qA.ia nA.inputs.length qA.ic, .slice qA.ha nA.holding.length qA.hc, .slice qA.wa nA.words.length qA.wc] 28)).alloc (.cells #[b8 rA.fn, b8 rA.ex, .slice bA rA.bits.length eA, .slice aA rA.words.length cA, b16 rA.at_, b16 rA.many] 36)).cell? ⟨w.heap.size, 0, none⟩ = some (.slice ca s.coils.length cc) := cell_of_row _ _ _ _ _ _ K3.out.s
  have s1 : ((w3.alloc (.cells #[.slice qA.ca nA.coils.length qA.cc, .slice qA.ia nA.inputs.length qA.ic, .slice qA.ha nA.holding.length qA.hc, .slice qA.wa nA.words.length qA.wc] 28)).alloc (.cells #[b8 rA.fn, b8 rA.ex, .slice bA rA.bits.length eA, .slice aA rA.words.length cA, b16 rA.at_, b16 rA.many] 36)).cell? ⟨w.heap.size, 1, none⟩ = some (.slice ia s.inputs.length ic) := cell_of_row _ _ _ _ _ _ K3.out.s
  have s2 : ((w3.alloc (.cells #[.slice qA.ca nA.coils.length qA.cc, .slice qA.ia nA.inputs.length qA.ic, .slice qA.ha nA.holding.length qA.hc, .slice qA.wa nA.words.length qA.wc] 28)).alloc (.cells #[b8 rA.fn, b8 rA.ex, .slice bA rA.bits.length eA, .slice aA rA.words.length cA, b16 rA.at_, b16 rA.many] 36)).cell? ⟨w.heap.size, 2, none⟩ = some (.slice ha s.holding.length hc) := cell_of_row _ _ _ _ _ _ K3.out.s
  have s3 : ((w3.alloc (.cells #[.slice qA.ca nA.coils.length qA.cc, .slice qA.ia nA.inputs.length qA.ic, .slice qA.ha nA.holding.length qA.hc, .slice qA.wa nA.words.length qA.wc] 28)).alloc (.cells #[b8 rA.fn, b8 rA.ex, .slice bA rA.bits.length eA, .slice aA rA.words.length cA, b16 rA.at_, b16 rA.many] 36)).cell? ⟨w.heap.size, 3, none⟩ = some (.slice wa s.words.length wc) := cell_of_row _ _ _ _ _ _ K3.out.s
  have g0 : ((w3.alloc (.cells #[.slice qA.ca nA.coils.length qA.cc, .slice qA.ia nA.inputs.length qA.ic, .slice qA.ha nA.holding.length qA.hc, .slice qA.wa nA.words.length qA.wc] 28)).alloc (.cells #[b8 rA.fn, b8 rA.ex, .slice bA rA.bits.length eA, .slice aA rA.words.length cA, b16 rA.at_, b16 rA.many] 36)).cell? ⟨w.heap.size + 1, 0, none⟩ = some (.slice da m.coils.length dc) := cell_of_row _ _ _ _ _ _ K3.out.m
  have g1 : ((w3.alloc (.cells #[.slice qA.ca nA.coils.length qA.cc, .slice qA.ia nA.inputs.length qA.ic, .slice qA.ha nA.holding.length qA.hc, .slice qA.wa nA.words.length qA.wc] 28)).alloc (.cells #[b8 rA.fn, b8 rA.ex, .slice bA rA.bits.length eA, .slice aA rA.words.length cA, b16 rA.at_, b16 rA.many] 36)).cell? ⟨w.heap.size + 1, 1, none⟩ = some (.slice ja m.inputs.length jc) := cell_of_row _ _ _ _ _ _ K3.out.m
  have g2 : ((w3.alloc (.cells #[.slice qA.ca nA.coils.length qA.cc, .slice qA.ia nA.inputs.length qA.ic, .slice qA.ha nA.holding.length qA.hc, .slice qA.wa nA.words.length qA.wc] 28)).alloc (.cells #[b8 rA.fn, b8 rA.ex, .slice bA rA.bits.length eA, .slice aA rA.words.length cA, b16 rA.at_, b16 rA.many] 36)).cell? ⟨w.heap.size + 1, 2, none⟩ = some (.slice ka m.holding.length kc) := cell_of_row _ _ _ _ _ _ K3.out.m
  have g3 : ((w3.alloc (.cells #[.slice qA.ca nA.coils.length qA.cc, .slice qA.ia nA.inputs.length qA.ic, .slice qA.ha nA.holding.length qA.hc, .slice qA.wa nA.words.length qA.wc] 28)).alloc (.cells #[b8 rA.fn, b8 rA.ex, .slice bA rA.bits.length eA, .slice aA rA.words.length cA, b16 rA.at_, b16 rA.many] 36)).cell? ⟨w.heap.size + 1, 3, none⟩ = some (.slice xa m.words.length xc) := cell_of_row _ _ _ _ _ _ K3.out.m
  go_wp2_with fail
  generalize ((w3.alloc (.cells #[.slice qA.ca nA.coils.length qA.cc, .slice qA.ia nA.inputs.length qA.ic, .slice qA.ha nA.holding.length qA.hc, .slice qA.wa nA.words.length qA.wc] 28)).alloc (.cells #[b8 rA.fn, b8 rA.ex, .slice bA rA.bits.length eA, .slice aA rA.words.length cA, b16 rA.at_, b16 rA.many] 36)) = Z3 at *
  refine (HDB.out Z3 K3.out.below).mono ?_
  rintro e w4 ⟨qB, aB, cB, bB, eB, rfl, hmB, hrB, hb⟩
  have K4 := Lib.hid ((K3.out.on hb).two (#[.slice qB.ca nB.coils.length qB.cc, .slice qB.ia nB.inputs.length qB.ic, .slice qB.ha nB.holding.length qB.hc, .slice qB.wa nB.words.length qB.wc]) (#[b8 rB.fn, b8 rB.ex, .slice bB rB.bits.length eB, .slice aB rB.words.length cB, b16 rB.at_, b16 rB.many]) 28 36)
  have hb3 := below_two w4 (.cells #[.slice qB.ca nB.coils.length qB.cc, .slice qB.ia nB.inputs.length qB.ic, .slice qB.ha nB.holding.length qB.hc, .slice qB.wa nB.words.length qB.wc] 28) (.cells #[b8 rB.fn, b8 rB.ex, .slice bB rB.bits.length eB, .slice aB rB.words.length cB, b16 rB.at_, b16 rB.many] 36)
  have HA4 := Lib.hid (And.intro ((HA3.out.1.on hb).on hb3) ((HA3.out.2.below hb).below hb3))
  have HB4 := Lib.hid (hmB.on hb3)
  clear hb K3 HDB HA3 hmB hrB hb3 s0 s1 s2 s3 g0 g1 g2 g3
  have s0 : ((w4.alloc (.cells #[.slice qB.ca nB.coils.length qB.cc, .slice qB.ia nB.inputs.length qB.ic, .slice qB.ha nB.holding.length qB.hc, .slice qB.wa nB.words.length qB.wc] 28)).alloc (.cells #[b8 rB.fn, b8 rB.ex, .slice bB rB.bits.length eB, .slice aB rB.words.length cB, b16 rB.at_, b16 rB.many] 36)).cell? ⟨w.heap.size, 0, none⟩ = some (.slice ca s.coils.length cc) := cell_of_row _ _ _ _ _ _ K4.out.s
  have s1 : ((w4.alloc (.cells #[.slice qB.ca nB.coils.length qB.cc, .slice qB.ia nB.inputs.length qB.ic, .slice qB.ha nB.holding.length qB.hc, .slice qB.wa nB.words.length qB.wc] 28)).alloc (.cells #[b8 rB.fn, b8 rB.ex, .slice bB rB.bits.length eB, .slice aB rB.words.length cB, b16 rB.at_, b16 rB.many] 36)).cell? ⟨w.heap.size, 1, none⟩ = some (.slice ia s.inputs.length ic) := cell_of_row _ _ _ _ _ _ K4.out.s
  have s2 : ((w4.alloc (.cells #[.slice qB.ca nB.coils.length qB.cc, .slice qB.ia nB.inputs.length qB.ic, .slice qB.ha nB.holding.length qB.hc, .slice qB.wa nB.words.length qB.wc] 28)).alloc (.cells #[b8 rB.fn, b8 rB.ex, .slice bB rB.bits.length eB, .slice aB rB.words.length cB, b16 rB.at_, b16 rB.many] 36)).cell? ⟨w.heap.size, 2, none⟩ = some (.slice ha s.holding.length hc) := cell_of_row _ _ _ _ _ _ K4.out.s
  have s3 : ((w4.alloc (.cells #[.slice qB.ca nB.coils.length qB.cc, .slice qB.ia nB.inputs.length qB.ic, .slice qB.ha nB.holding.length qB.hc, .slice qB.wa nB.words.length qB.wc] 28)).alloc (.cells #[b8 rB.fn, b8 rB.ex, .slice bB rB.bits.length eB, .slice aB rB.words.length cB, b16 rB.at_, b16 rB.many] 36)).cell? ⟨w.heap.size, 3, none⟩ = some (.slice wa s.words.length wc) := cell_of_row _ _ _ _ _ _ K4.out.s
  have g0 : ((w4.alloc (.cells #[.slice qB.ca nB.coils.length qB.cc, .slice qB.ia nB.inputs.length qB.ic, .slice qB.ha nB.holding.length qB.hc, .slice qB.wa nB.words.length qB.wc] 28)).alloc (.cells #[b8 rB.fn, b8 rB.ex, .slice bB rB.bits.length eB, .slice aB rB.words.length cB, b16 rB.at_, b16 rB.many] 36)).cell? ⟨w.heap.size + 1, 0, none⟩ = some (.slice da m.coils.length dc) := cell_of_row _ _ _ _ _ _ K4.out.m
  have g1 : ((w4.alloc (.cells #[.slice qB.ca nB.coils.length qB.cc, .slice qB.ia nB.inputs.length qB.ic, .slice qB.ha nB.holding.length qB.hc, .slice qB.wa nB.words.length qB.wc] 28)).alloc (.cells #[b8 rB.fn, b8 rB.ex, .slice bB rB.bits.length eB, .slice aB rB.words.length cB, b16 rB.at_, b16 rB.many] 36)).cell? ⟨w.heap.size + 1, 1, none⟩ = some (.slice ja m.inputs.length jc) := cell_of_row _ _ _ _ _ _ K4.out.m
  have g2 : ((w4.alloc (.cells #[.slice qB.ca nB.coils.length qB.cc, .slice qB.ia nB.inputs.length qB.ic, .slice qB.ha nB.holding.length qB.hc, .slice qB.wa nB.words.length qB.wc] 28)).alloc (.cells #[b8 rB.fn, b8 rB.ex, .slice bB rB.bits.length eB, .slice aB rB.words.length cB, b16 rB.at_, b16 rB.many] 36)).cell? ⟨w.heap.size + 1, 2, none⟩ = some (.slice ka m.holding.length kc) := cell_of_row _ _ _ _ _ _ K4.out.m
  have g3 : ((w4.alloc (.cells #[.slice qB.ca nB.coils.length qB.cc, .slice qB.ia nB.inputs.length qB.ic, .slice qB.ha nB.holding.length qB.hc, .slice qB.wa nB.words.length qB.wc] 28)).alloc (.cells #[b8 rB.fn, b8 rB.ex, .slice bB rB.bits.length eB, .slice aB rB.words.length cB, b16 rB.at_, b16 rB.many] 36)).cell? ⟨w.heap.size + 1, 3, none⟩ = some (.slice xa m.words.length xc) := cell_of_row _ _ _ _ _ _ K4.out.m
  have o0 : ((w4.alloc (.cells #[.slice qB.ca nB.coils.length qB.cc, .slice qB.ia nB.inputs.length qB.ic, .slice qB.ha nB.holding.length qB.hc, .slice qB.wa nB.words.length qB.wc] 28)).alloc (.cells #[b8 rB.fn, b8 rB.ex, .slice bB rB.bits.length eB, .slice aB rB.words.length cB, b16 rB.at_, b16 rB.many] 36)).cell? ⟨w4.heap.size, 0, none⟩ = some (.slice qB.ca nB.coils.length qB.cc) := cell_of_row _ _ _ _ _ _ (K4.out.at_ (c := #[.slice qB.ca nB.coils.length qB.cc, .slice qB.ia nB.inputs.length qB.ic, .slice qB.ha nB.holding.length qB.hc, .slice qB.wa nB.words.length qB.wc]) (t := 28) (by simp))
  have o1 : ((w4.alloc (.cells #[.slice qB.ca nB.coils.length qB.cc, .slice qB.ia nB.inputs.length qB.ic, .slice qB.ha nB.holding.length qB.hc, .slice qB.wa nB.words.length qB.wc] 28)).alloc (.cells #[b8 rB.fn, b8 rB.ex, .slice bB rB.bits.length eB, .slice aB rB.words.length cB, b16 rB.at_, b16 rB.many] 36)).cell? ⟨w4.heap.size, 1, none⟩ = some (.slice qB.ia nB.inputs.length qB.ic) := cell_of_row _ _ _ _ _ _ (K4.out.at_ (c := #[.slice qB.ca nB.coils.length qB.cc, .slice qB.ia nB.inputs.length qB.ic, .slice qB.ha nB.holding.length qB.hc, .slice qB.wa nB.words.length qB.wc]) (t := 28) (by simp))
  have o2 : ((w4.alloc (.cells #[.slice qB.ca nB.coils.length qB.cc, .slice qB.ia nB.inputs.length qB.ic, .slice qB.ha nB.holding.length qB.hc, .slice qB.wa nB.words.length qB.wc] 28)).alloc (.cells #[b8 rB.fn, b8 rB.ex, .slice bB rB.bits.length eB, .slice aB rB.words.length cB, b16 rB.at_, b16 rB.many] 36)).cell? ⟨w4.heap.size, 2, none⟩ = some (.slice qB.ha nB.holding.length qB.hc) := cell_of_row _ _ _ _ _ _ (K4.out.at_ (c := #[.slice qB.ca nB.coils.length qB.cc, .slice qB.ia nB.inputs.length qB.ic, .slice qB.ha nB.holding.length qB.hc, .slice qB.wa nB.words.length qB.wc]) (t := 28) (by simp))
  have o3 : ((w4.alloc (.cells #[.slice qB.ca nB.coils.length qB.cc, .slice qB.ia nB.inputs.length qB.ic, .slice qB.ha nB.holding.length qB.hc, .slice qB.wa nB.words.length qB.wc] 28)).alloc (.cells #[b8 rB.fn, b8 rB.ex, .slice bB rB.bits.length eB, .slice aB rB.words.length cB, b16 rB.at_, b16 rB.many] 36)).cell? ⟨w4.heap.size, 3, none⟩ = some (.slice qB.wa nB.words.length qB.wc) := cell_of_row _ _ _ _ _ _ (K4.out.at_ (c := #[.slice qB.ca nB.coils.length qB.cc, .slice qB.ia nB.inputs.length qB.ic, .slice qB.ha nB.holding.length qB.hc, .slice qB.wa nB.words.length qB.wc]) (t := 28) (by simp))
  go_wp2_with fail
  generalize ((w4.alloc (.cells #[.slice qB.ca nB.coils.length qB.cc, .slice qB.ia nB.inputs.length qB.ic, .slice qB.ha nB.holding.length qB.hc, .slice qB.wa nB.words.length qB.wc] 28)).alloc (.cells #[b8 rB.fn, b8 rB.ex, .slice bB rB.bits.length eB, .slice aB rB.words.length cB, b16 rB.at_, b16 rB.many] 36)) = Z4 at *
  refine (HDC.out qB Z4 K4.out.below HB4.out).mono ?_
  rintro e w5 ⟨qC, aC, cC, bC, eC, rfl, hmC, hrC, hb⟩
  have K5 := Lib.hid ((K4.out.on hb).two (#[.slice qC.ca nC.coils.length qC.cc, .slice qC.ia nC.inputs.length qC.ic, .slice qC.ha nC.holding.length qC.hc, .slice qC.wa nC.words.length qC.wc]) (#[b8 rC.fn, b8 rC.ex, .slice bC rC.bits.length eC, .slice aC rC.words.length cC, b16 rC.at_, b16 rC.many]) 28 36)
  have hb3 := below_two w5 (.cells #[.slice qC.ca nC.coils.length qC.cc, .slice qC.ia nC.inputs.length qC.ic, .slice qC.ha nC.holding.length qC.hc, .slice qC.wa nC.words.length qC.wc] 28) (.cells #[b8 rC.fn, b8 rC.ex, .slice bC rC.bits.length eC, .slice aC rC.words.length cC, b16 rC.at_, b16 rC.many] 36)
  have HA5 := Lib.hid (And.intro ((HA4.out.1.on hb).on hb3) ((HA4.out.2.below hb).below hb3))
  have HC5 := Lib.hid (And.intro (hmC.on hb3) (hrC.below hb3))
  clear hb K4 HDC HA4 HB4 hmC hrC hb3 s0 s1 s2 s3 g0 g1 g2 g3 o0 o1 o2 o3
  have x1 : ((w5.alloc (.cells #[.slice qC.ca nC.coils.length qC.cc, .slice qC.ia nC.inputs.length qC.ic, .slice qC.ha nC.holding.length qC.hc, .slice qC.wa nC.words.length qC.wc] 28)).alloc (.cells #[b8 rC.fn, b8 rC.ex, .slice bC rC.bits.length eC, .slice aC rC.words.length cC, b16 rC.at_, b16 rC.many] 36)).cell? ⟨w4.heap.size + 1, 1, none⟩ = some (b8 rB.ex) := cell_of_row _ _ _ _ _ _ (K5.out.at_ (c := #[b8 rB.fn, b8 rB.ex, .slice bB rB.bits.length eB, .slice aB rB.words.length cB, b16 rB.at_, b16 rB.many]) (t := 36) (by simp))
  have x2 : ((w5.alloc (.cells #[.slice qC.ca nC.coils.length qC.cc, .slice qC.ia nC.inputs.length qC.ic, .slice qC.ha nC.holding.length qC.hc, .slice qC.wa nC.words.length qC.wc] 28)).alloc (.cells #[b8 rC.fn, b8 rC.ex, .slice bC rC.bits.length eC, .slice aC rC.words.length cC, b16 rC.at_, b16 rC.many] 36)).cell? ⟨w5.heap.size + 1, 1, none⟩ = some (b8 rC.ex) := cell_of_row _ _ _ _ _ _ (K5.out.at_ (c := #[b8 rC.fn, b8 rC.ex, .slice bC rC.bits.length eC, .slice aC rC.words.length cC, b16 rC.at_, b16 rC.many]) (t := 36) (by simp))
  have x3 : ((w5.alloc (.cells #[.slice qC.ca nC.coils.length qC.cc, .slice qC.ia nC.inputs.length qC.ic, .slice qC.ha nC.holding.length qC.hc, .slice qC.wa nC.words.length qC.wc] 28)).alloc (.cells #[b8 rC.fn, b8 rC.ex, .slice bC rC.bits.length eC, .slice aC rC.words.length cC, b16 rC.at_, b16 rC.many] 36)).cell? ⟨w3.heap.size + 1, 1, none⟩ = some (b8 rA.ex) := cell_of_row _ _ _ _ _ _ (K5.out.at_ (c := #[b8 rA.fn, b8 rA.ex, .slice bA rA.bits.length eA, .slice aA rA.words.length cA, b16 rA.at_, b16 rA.many]) (t := 36) (by simp))
  have o0 : ((w5.alloc (.cells #[.slice qC.ca nC.coils.length qC.cc, .slice qC.ia nC.inputs.length qC.ic, .slice qC.ha nC.holding.length qC.hc, .slice qC.wa nC.words.length qC.wc] 28)).alloc (.cells #[b8 rC.fn, b8 rC.ex, .slice bC rC.bits.length eC, .slice aC rC.words.length cC, b16 rC.at_, b16 rC.many] 36)).cell? ⟨w3.heap.size, 0, none⟩ = some (.slice qA.ca nA.coils.length qA.cc) := cell_of_row _ _ _ _ _ _ (K5.out.at_ (c := #[.slice qA.ca nA.coils.length qA.cc, .slice qA.ia nA.inputs.length qA.ic, .slice qA.ha nA.holding.length qA.hc, .slice qA.wa nA.words.length qA.wc]) (t := 28) (by simp))
  have o1 : ((w5.alloc (.cells #[.slice qC.ca nC.coils.length qC.cc, .slice qC.ia nC.inputs.length qC.ic, .slice qC.ha nC.holding.length qC.hc, .slice qC.wa nC.words.length qC.wc] 28)).alloc (.cells #[b8 rC.fn, b8 rC.ex, .slice bC rC.bits.length eC, .slice aC rC.words.length cC, b16 rC.at_, b16 rC.many] 36)).cell? ⟨w3.heap.size, 1, none⟩ = some (.slice qA.ia nA.inputs.length qA.ic) := cell_of_row _ _ _ _ _ _ (K5.out.at_ (c := #[.slice qA.ca nA.coils.length qA.cc, .slice qA.ia nA.inputs.length qA.ic, .slice qA.ha nA.holding.length qA.hc, .slice qA.wa nA.words.length qA.wc]) (t := 28) (by simp))
  have o2 : ((w5.alloc (.cells #[.slice qC.ca nC.coils.length qC.cc, .slice qC.ia nC.inputs.length qC.ic, .slice qC.ha nC.holding.length qC.hc, .slice qC.wa nC.words.length qC.wc] 28)).alloc (.cells #[b8 rC.fn, b8 rC.ex, .slice bC rC.bits.length eC, .slice aC rC.words.length cC, b16 rC.at_, b16 rC.many] 36)).cell? ⟨w3.heap.size, 2, none⟩ = some (.slice qA.ha nA.holding.length qA.hc) := cell_of_row _ _ _ _ _ _ (K5.out.at_ (c := #[.slice qA.ca nA.coils.length qA.cc, .slice qA.ia nA.inputs.length qA.ic, .slice qA.ha nA.holding.length qA.hc, .slice qA.wa nA.words.length qA.wc]) (t := 28) (by simp))
  have o3 : ((w5.alloc (.cells #[.slice qC.ca nC.coils.length qC.cc, .slice qC.ia nC.inputs.length qC.ic, .slice qC.ha nC.holding.length qC.hc, .slice qC.wa nC.words.length qC.wc] 28)).alloc (.cells #[b8 rC.fn, b8 rC.ex, .slice bC rC.bits.length eC, .slice aC rC.words.length cC, b16 rC.at_, b16 rC.many] 36)).cell? ⟨w3.heap.size, 3, none⟩ = some (.slice qA.wa nA.words.length qA.wc) := cell_of_row _ _ _ _ _ _ (K5.out.at_ (c := #[.slice qA.ca nA.coils.length qA.cc, .slice qA.ia nA.inputs.length qA.ic, .slice qA.ha nA.holding.length qA.hc, .slice qA.wa nA.words.length qA.wc]) (t := 28) (by simp))
  have j0 : ((w5.alloc (.cells #[.slice qC.ca nC.coils.length qC.cc, .slice qC.ia nC.inputs.length qC.ic, .slice qC.ha nC.holding.length qC.hc, .slice qC.wa nC.words.length qC.wc] 28)).alloc (.cells #[b8 rC.fn, b8 rC.ex, .slice bC rC.bits.length eC, .slice aC rC.words.length cC, b16 rC.at_, b16 rC.many] 36)).cell? ⟨w5.heap.size, 0, none⟩ = some (.slice qC.ca nC.coils.length qC.cc) := cell_of_row _ _ _ _ _ _ (K5.out.at_ (c := #[.slice qC.ca nC.coils.length qC.cc, .slice qC.ia nC.inputs.length qC.ic, .slice qC.ha nC.holding.length qC.hc, .slice qC.wa nC.words.length qC.wc]) (t := 28) (by simp))
  have j1 : ((w5.alloc (.cells #[.slice qC.ca nC.coils.length qC.cc, .slice qC.ia nC.inputs.length qC.ic, .slice qC.ha nC.holding.length qC.hc, .slice qC.wa nC.words.length qC.wc] 28)).alloc (.cells #[b8 rC.fn, b8 rC.ex, .slice bC rC.bits.length eC, .slice aC rC.words.length cC, b16 rC.at_, b16 rC.many] 36)).cell? ⟨w5.heap.size, 1, none⟩ = some (.slice qC.ia nC.inputs.length qC.ic) := cell_of_row _ _ _ _ _ _ (K5.out.at_ (c := #[.slice qC.ca nC.coils.length qC.cc, .slice qC.ia nC.inputs.length qC.ic, .slice qC.ha nC.holding.length qC.hc, .slice qC.wa nC.words.length qC.wc]) (t := 28) (by simp))
  have j2 : ((w5.alloc (.cells #[.slice qC.ca nC.coils.length qC.cc, .slice qC.ia nC.inputs.length qC.ic, .slice qC.ha nC.holding.length qC.hc, .slice qC.wa nC.words.length qC.wc] 28)).alloc (.cells #[b8 rC.fn, b8 rC.ex, .slice bC rC.bits.length eC, .slice aC rC.words.length cC, b16 rC.at_, b16 rC.many] 36)).cell? ⟨w5.heap.size, 2, none⟩ = some (.slice qC.ha nC.holding.length qC.hc) := cell_of_row _ _ _ _ _ _ (K5.out.at_ (c := #[.slice qC.ca nC.coils.length qC.cc, .slice qC.ia nC.inputs.length qC.ic, .slice qC.ha nC.holding.length qC.hc, .slice qC.wa nC.words.length qC.wc]) (t := 28) (by simp))
  have j3 : ((w5.alloc (.cells #[.slice qC.ca nC.coils.length qC.cc, .slice qC.ia nC.inputs.length qC.ic, .slice qC.ha nC.holding.length qC.hc, .slice qC.wa nC.words.length qC.wc] 28)).alloc (.cells #[b8 rC.fn, b8 rC.ex, .slice bC rC.bits.length eC, .slice aC rC.words.length cC, b16 rC.at_, b16 rC.many] 36)).cell? ⟨w5.heap.size, 3, none⟩ = some (.slice qC.wa nC.words.length qC.wc) := cell_of_row _ _ _ _ _ _ (K5.out.at_ (c := #[.slice qC.ca nC.coils.length qC.cc, .slice qC.ia nC.inputs.length qC.ic, .slice qC.ha nC.holding.length qC.hc, .slice qC.wa nC.words.length qC.wc]) (t := 28) (by simp))
  have s0 : ((w5.alloc (.cells #[.slice qC.ca nC.coils.length qC.cc, .slice qC.ia nC.inputs.length qC.ic, .slice qC.ha nC.holding.length qC.hc, .slice qC.wa nC.words.length qC.wc] 28)).alloc (.cells #[b8 rC.fn, b8 rC.ex, .slice bC rC.bits.length eC, .slice aC rC.words.length cC, b16 rC.at_, b16 rC.many] 36)).cell? ⟨w.heap.size, 0, none⟩ = some (.slice ca s.coils.length cc) := cell_of_row _ _ _ _ _ _ K5.out.s
  have s1 : ((w5.alloc (.cells #[.slice qC.ca nC.coils.length qC.cc, .slice qC.ia nC.inputs.length qC.ic, .slice qC.ha nC.holding.length qC.hc, .slice qC.wa nC.words.length qC.wc] 28)).alloc (.cells #[b8 rC.fn, b8 rC.ex, .slice bC rC.bits.length eC, .slice aC rC.words.length cC, b16 rC.at_, b16 rC.many] 36)).cell? ⟨w.heap.size, 1, none⟩ = some (.slice ia s.inputs.length ic) := cell_of_row _ _ _ _ _ _ K5.out.s
  have s2 : ((w5.alloc (.cells #[.slice qC.ca nC.coils.length qC.cc, .slice qC.ia nC.inputs.length qC.ic, .slice qC.ha nC.holding.length qC.hc, .slice qC.wa nC.words.length qC.wc] 28)).alloc (.cells #[b8 rC.fn, b8 rC.ex, .slice bC rC.bits.length eC, .slice aC rC.words.length cC, b16 rC.at_, b16 rC.many] 36)).cell? ⟨w.heap.size, 2, none⟩ = some (.slice ha s.holding.length hc) := cell_of_row _ _ _ _ _ _ K5.out.s
  have s3 : ((w5.alloc (.cells #[.slice qC.ca nC.coils.length qC.cc, .slice qC.ia nC.inputs.length qC.ic, .slice qC.ha nC.holding.length qC.hc, .slice qC.wa nC.words.length qC.wc] 28)).alloc (.cells #[b8 rC.fn, b8 rC.ex, .slice bC rC.bits.length eC, .slice aC rC.words.length cC, b16 rC.at_, b16 rC.many] 36)).cell? ⟨w.heap.size, 3, none⟩ = some (.slice wa s.words.length wc) := cell_of_row _ _ _ _ _ _ K5.out.s
  have g0 : ((w5.alloc (.cells #[.slice qC.ca nC.coils.length qC.cc, .slice qC.ia nC.inputs.length qC.ic, .slice qC.ha nC.holding.length qC.hc, .slice qC.wa nC.words.length qC.wc] 28)).alloc (.cells #[b8 rC.fn, b8 rC.ex, .slice bC rC.bits.length eC, .slice aC rC.words.length cC, b16 rC.at_, b16 rC.many] 36)).cell? ⟨w.heap.size + 1, 0, none⟩ = some (.slice da m.coils.length dc) := cell_of_row _ _ _ _ _ _ K5.out.m
  have g1 : ((w5.alloc (.cells #[.slice qC.ca nC.coils.length qC.cc, .slice qC.ia nC.inputs.length qC.ic, .slice qC.ha nC.holding.length qC.hc, .slice qC.wa nC.words.length qC.wc] 28)).alloc (.cells #[b8 rC.fn, b8 rC.ex, .slice bC rC.bits.length eC, .slice aC rC.words.length cC, b16 rC.at_, b16 rC.many] 36)).cell? ⟨w.heap.size + 1, 1, none⟩ = some (.slice ja m.inputs.length jc) := cell_of_row _ _ _ _ _ _ K5.out.m
  have g2 : ((w5.alloc (.cells #[.slice qC.ca nC.coils.length qC.cc, .slice qC.ia nC.inputs.length qC.ic, .slice qC.ha nC.holding.length qC.hc, .slice qC.wa nC.words.length qC.wc] 28)).alloc (.cells #[b8 rC.fn, b8 rC.ex, .slice bC rC.bits.length eC, .slice aC rC.words.length cC, b16 rC.at_, b16 rC.many] 36)).cell? ⟨w.heap.size + 1, 2, none⟩ = some (.slice ka m.holding.length kc) := cell_of_row _ _ _ _ _ _ K5.out.m
  have g3 : ((w5.alloc (.cells #[.slice qC.ca nC.coils.length qC.cc, .slice qC.ia nC.inputs.length qC.ic, .slice qC.ha nC.holding.length qC.hc, .slice qC.wa nC.words.length qC.wc] 28)).alloc (.cells #[b8 rC.fn, b8 rC.ex, .slice bC rC.bits.length eC, .slice aC rC.words.length cC, b16 rC.at_, b16 rC.many] 36)).cell? ⟨w.heap.size + 1, 3, none⟩ = some (.slice xa m.words.length xc) := cell_of_row _ _ _ _ _ _ K5.out.m
  have hne8 : ∀ x : UInt8, ¬ x = 0 → ((x.toNat : Int) != 0) = true := fun x h => by
    simp
    exact fun e => h (UInt8.toNat_inj.1 (by simpa using e))

  have HF := Lib.hid HFA.out
  clear HFA
  have HMM := Lib.hid (HME.out ((w5.alloc (.cells #[.slice qC.ca nC.coils.length qC.cc, .slice qC.ia nC.inputs.length qC.ic, .slice qC.ha nC.holding.length qC.hc, .slice qC.wa nC.words.length qC.wc] 28)).alloc (.cells #[b8 rC.fn, b8 rC.ex, .slice bC rC.bits.length eC, .slice aC rC.words.length cC, b16 rC.at_, b16 rC.many] 36)) K5.out.below)
  by_cases hz : rB.ex = 0 ∧ rC.ex = 0
  case neg =>
    have hz' : rB.ex ≠ 0 ∨ rC.ex ≠ 0 := by
      by_cases h : rB.ex = 0
      · exact .inr fun h2 => hz ⟨h, h2⟩
      · exact .inl h
    obtain ⟨hnm, hrex⟩ := HF.out.1 hz'
    have HSM := Lib.hid (by
      have h := same_any nA m qA ⟨da, dc, ja, jc, ka, kc, xa, xc⟩ ((w5.alloc (.cells #[.slice qC.ca nC.coils.length qC.cc, .slice qC.ia nC.inputs.length qC.ic, .slice qC.ha nC.holding.length qC.hc, .slice qC.wa nC.words.length qC.wc] 28)).alloc (.cells #[b8 rC.fn, b8 rC.ex, .slice bC rC.bits.length eC, .slice aC rC.words.length cC, b16 rC.at_, b16 rC.many] 36)) HA5.out.1 HMM.out
      rw [decide_eq_true hnm] at h
      exact h)
    clear hnm HF HA5 HC5
    by_cases hC0 : rC.ex = 0
    · have hB : rB.ex ≠ 0 := by
        rcases hz' with h | h
        · exact h
        · exact absurd hC0 h
      rw [if_pos (.inl hC0)] at hrex
      have e1 : ((rB.ex.toNat : Int) != 0) = true := hne8 _ hB
      have e3 : ((rC.ex.toNat : Int) == 0) = true := by rw [hC0]; rfl
      have e4 : ((rA.ex.toNat : Int) == 2) = true := by rw [hrex]; rfl
      clear hz hz' hB hC0 hrex hne8
      go_wp2_with fail
      refine (HSM.out).mono ?_
      rintro e w6 ⟨rfl, hb⟩
      have K6 := Lib.hid (K5.out.on hb)
      clear hb
      have x4 : w6.cell? ⟨w3.heap.size + 1, 1, none⟩ = some (b8 rA.ex) := cell_of_row _ _ _ _ _ _ (K6.out.at_ (c := #[b8 rA.fn, b8 rA.ex, .slice bA rA.bits.length eA, .slice aA rA.words.length cA, b16 rA.at_, b16 rA.many]) (t := 36) (by simp))
      go_wp2_with fail
      refine (HAW.out _).mono ?_
      rintro e w7 ⟨rfl, hb⟩
      have K7 := Lib.hid (K6.out.on hb)
      go_wp2_with fail
      go_ret
      exact ⟨rfl, K7.out.below⟩
    by_cases hC2 : rC.ex = 2
    · rw [if_pos (.inr hC2)] at hrex
      have e2 : ((rC.ex.toNat : Int) != 0) = true := hne8 _ hC0
      have e3 : ((rC.ex.toNat : Int) == 0) = false := by rw [hC2]; rfl
      have e5 : ((rC.ex.toNat : Int) == 2) = true := by rw [hC2]; rfl
      have e4 : ((rA.ex.toNat : Int) == 2) = true := by rw [hrex]; rfl
      by_cases hB : rB.ex = 0
      · have e1 : ((rB.ex.toNat : Int) != 0) = false := by rw [hB]; rfl
        clear hz hz' hB hC0 hC2 hrex hne8
        go_wp2_with fail
        refine (HSM.out).mono ?_
        rintro e w6 ⟨rfl, hb⟩
        have K6 := Lib.hid (K5.out.on hb)
        clear hb
        have x4 : w6.cell? ⟨w3.heap.size + 1, 1, none⟩ = some (b8 rA.ex) := cell_of_row _ _ _ _ _ _ (K6.out.at_ (c := #[b8 rA.fn, b8 rA.ex, .slice bA rA.bits.length eA, .slice aA rA.words.length cA, b16 rA.at_, b16 rA.many]) (t := 36) (by simp))
        go_wp2_with fail
        refine (HAW.out _).mono ?_
        rintro e w7 ⟨rfl, hb⟩
        have K7 := Lib.hid (K6.out.on hb)
        go_wp2_with fail
        go_ret
        exact ⟨rfl, K7.out.below⟩
      · have e1 : ((rB.ex.toNat : Int) != 0) = true := hne8 _ hB
        clear hz hz' hB hC0 hC2 hrex hne8
        go_wp2_with fail
        refine (HSM.out).mono ?_
        rintro e w6 ⟨rfl, hb⟩
        have K6 := Lib.hid (K5.out.on hb)
        clear hb
        have x4 : w6.cell? ⟨w3.heap.size + 1, 1, none⟩ = some (b8 rA.ex) := cell_of_row _ _ _ _ _ _ (K6.out.at_ (c := #[b8 rA.fn, b8 rA.ex, .slice bA rA.bits.length eA, .slice aA rA.words.length cA, b16 rA.at_, b16 rA.many]) (t := 36) (by simp))
        go_wp2_with fail
        refine (HAW.out _).mono ?_
        rintro e w7 ⟨rfl, hb⟩
        have K7 := Lib.hid (K6.out.on hb)
        go_wp2_with fail
        go_ret
        exact ⟨rfl, K7.out.below⟩
    · rw [if_neg (fun h => h.elim hC0 hC2)] at hrex
      have e2 : ((rC.ex.toNat : Int) != 0) = true := hne8 _ hC0
      have e3 : ((rC.ex.toNat : Int) == 0) = false := by
        have h := hne8 _ hC0
        simpa [bne] using h
      have e5 : ((rC.ex.toNat : Int) == 2) = false := beq_eq_false_iff_ne.2 fun h => hC2 (UInt8.toNat_inj.1 (by
        have : rC.ex.toNat = 2 := by omega
        rw [this]; rfl))
      have e4 : ((rA.ex.toNat : Int) == (rC.ex.toNat : Int)) = true := by rw [hrex]; simp
      by_cases hB : rB.ex = 0
      · have e1 : ((rB.ex.toNat : Int) != 0) = false := by rw [hB]; rfl
        clear hz hz' hB hC0 hC2 hrex hne8
        go_wp2_with fail
        refine (HSM.out).mono ?_
        rintro e w6 ⟨rfl, hb⟩
        have K6 := Lib.hid (K5.out.on hb)
        clear hb
        have x4 : w6.cell? ⟨w3.heap.size + 1, 1, none⟩ = some (b8 rA.ex) := cell_of_row _ _ _ _ _ _ (K6.out.at_ (c := #[b8 rA.fn, b8 rA.ex, .slice bA rA.bits.length eA, .slice aA rA.words.length cA, b16 rA.at_, b16 rA.many]) (t := 36) (by simp))
        go_wp2_with fail
        refine (HAW.out _).mono ?_
        rintro e w7 ⟨rfl, hb⟩
        have K7 := Lib.hid (K6.out.on hb)
        go_wp2_with fail
        go_ret
        exact ⟨rfl, K7.out.below⟩
      · have e1 : ((rB.ex.toNat : Int) != 0) = true := hne8 _ hB
        clear hz hz' hB hC0 hC2 hrex hne8
        go_wp2_with fail
        refine (HSM.out).mono ?_
        rintro e w6 ⟨rfl, hb⟩
        have K6 := Lib.hid (K5.out.on hb)
        clear hb
        have x4 : w6.cell? ⟨w3.heap.size + 1, 1, none⟩ = some (b8 rA.ex) := cell_of_row _ _ _ _ _ _ (K6.out.at_ (c := #[b8 rA.fn, b8 rA.ex, .slice bA rA.bits.length eA, .slice aA rA.words.length cA, b16 rA.at_, b16 rA.many]) (t := 36) (by simp))
        go_wp2_with fail
        refine (HAW.out _).mono ?_
        rintro e w7 ⟨rfl, hb⟩
        have K7 := Lib.hid (K6.out.on hb)
        go_wp2_with fail
        go_ret
        exact ⟨rfl, K7.out.below⟩
  obtain ⟨hB, hC⟩ := hz
  obtain ⟨hnp, hrA, hww⟩ := HF.out.2 ⟨hB, hC⟩
  have HSM := Lib.hid (by
    have h := same_any nA nC qA qC ((w5.alloc (.cells #[.slice qC.ca nC.coils.length qC.cc, .slice qC.ia nC.inputs.length qC.ic, .slice qC.ha nC.holding.length qC.hc, .slice qC.wa nC.words.length qC.wc] 28)).alloc (.cells #[b8 rC.fn, b8 rC.ex, .slice bC rC.bits.length eC, .slice aC rC.words.length cC, b16 rC.at_, b16 rC.many] 36)) HA5.out.1 HC5.out.1
    rw [decide_eq_true hnp] at h
    exact h)
  have HLW := Lib.hid (fun W (hW : Below ((w5.alloc (.cells #[.slice qC.ca nC.coils.length qC.cc, .slice qC.ia nC.inputs.length qC.ic, .slice qC.ha nC.holding.length qC.hc, .slice qC.wa nC.words.length qC.wc] 28)).alloc (.cells #[b8 rC.fn, b8 rC.ex, .slice bC rC.bits.length eC, .slice aC rC.words.length cC, b16 rC.at_, b16 rC.many] 36)).heap.size ((w5.alloc (.cells #[.slice qC.ca nC.coils.length qC.cc, .slice qC.ia nC.inputs.length qC.ic, .slice qC.ha nC.holding.length qC.hc, .slice qC.wa nC.words.length qC.wc] 28)).alloc (.cells #[b8 rC.fn, b8 rC.ex, .slice bC rC.bits.length eC, .slice aC rC.words.length cC, b16 rC.at_, b16 rC.many] 36)) W) => (by
    have h := LowWords_any aA aC rA.words.length cA rC.words.length cC rA.words rC.words _ _ W (HA5.out.2.below hW).words (HC5.out.2.below hW).words
    rw [decide_eq_true hww] at h
    exact h : Calls Try.prog 17 #[.slice aA rA.words.length cA, .slice aC rC.words.length cC] W (SaysD (.bool true) W)))
  have e1 : ((rB.ex.toNat : Int) != 0) = false := by rw [hB]; rfl
  have e2 : ((rC.ex.toNat : Int) != 0) = false := by rw [hC]; rfl
  have e4 : ((rA.ex.toNat : Int) == 0) = true := by rw [hrA]; rfl
  clear hB hC hnp hrA hww HF HA5 HC5 hne8
  go_wp2_with fail
  refine (HSM.out).mono ?_
  rintro e w6 ⟨rfl, hb⟩
  have K6 := Lib.hid (K5.out.on hb)
  have HLW6 := Lib.hid (HLW.out w6 hb)
  clear hb HLW
  have x4 : w6.cell? ⟨w3.heap.size + 1, 1, none⟩ = some (b8 rA.ex) := cell_of_row _ _ _ _ _ _ (K6.out.at_ (c := #[b8 rA.fn, b8 rA.ex, .slice bA rA.bits.length eA, .slice aA rA.words.length cA, b16 rA.at_, b16 rA.many]) (t := 36) (by simp))
  have x5 : w6.cell? ⟨w3.heap.size + 1, 3, none⟩ = some (.slice aA rA.words.length cA) := cell_of_row _ _ _ _ _ _ (K6.out.at_ (c := #[b8 rA.fn, b8 rA.ex, .slice bA rA.bits.length eA, .slice aA rA.words.length cA, b16 rA.at_, b16 rA.many]) (t := 36) (by simp))
  have x6 : w6.cell? ⟨w5.heap.size + 1, 3, none⟩ = some (.slice aC rC.words.length cC) := cell_of_row _ _ _ _ _ _ (K6.out.at_ (c := #[b8 rC.fn, b8 rC.ex, .slice bC rC.bits.length eC, .slice aC rC.words.length cC, b16 rC.at_, b16 rC.many]) (t := 36) (by simp))
  go_wp2_with fail
  refine (HLW6.out).mono ?_
  rintro e w7 hs
  have K7 := Lib.hid (K6.out.on hs.below)
  obtain ⟨rfl, q7, rfl⟩ := hs
  go_wp2_with fail
  refine (HAW.out _).mono ?_
  rintro e w8 ⟨rfl, hb⟩
  have K8 := Lib.hid (K7.out.on hb)
  go_wp2_with fail
  go_ret
  exact ⟨rfl, K8.out.below⟩
end Go.Proofs.Ytboofgigmaabhaa.ModW
