/- What is written is read so: the walk. -/
import Derived.Test.YtamdpinfbadflaaModLawServes
import Derived.Test.YtamdpinfbadflaaModReadsP
open Go.RowKit
namespace Go.Proofs.Ytamdpinfbadflaa.ModW
open AskM ReplyM ModM Mem AskW ReplyW

/-- The law's boxes, and that nothing old is written since the world Z. -/
structure SXB (w Z W : World) (S M : Array Value) (l : List (Nat × Array Value × TypeId)) : Prop where
  sx : SX w W S M l
  on_ : Below Z.heap.size Z W
theorem SXB.s {w Z W : World} {S M : Array Value} {l : List (Nat × Array Value × TypeId)} (h : SXB w Z W S M l) : W.heap[w.heap.size]? = some (.cells S 24 (0, 0)) := h.sx.s
theorem SXB.m {w Z W : World} {S M : Array Value} {l : List (Nat × Array Value × TypeId)} (h : SXB w Z W S M l) : W.heap[w.heap.size + 1]? = some (.cells M 28 (0, 0)) := h.sx.m
theorem SXB.at_ {w Z W : World} {S M : Array Value} {l : List (Nat × Array Value × TypeId)} (h : SXB w Z W S M l) {g : Nat} {c : Array Value} {t : TypeId} (hx : (g, c, t) ∈ l) : W.heap[g]? = some (.cells c t (0, 0)) := h.sx.at_ hx
theorem SXB.next {w Z W W' : World} {S M : Array Value} {l : List (Nat × Array Value × TypeId)} (h : SXB w Z W S M l) (hb : Below W.heap.size W W') : SXB w Z W' S M l := ⟨h.sx.on hb, h.on_.trans (hb.mono h.on_.size)⟩
theorem beq_u8 (x y : UInt8) : ((x.toNat : Int) == (y.toNat : Int)) = decide (x = y) := by
  rw [Bool.eq_iff_iff]
  simp only [beq_iff_eq, decide_eq_true_eq, Int.ofNat_inj]
  exact UInt8.toNat_inj

set_option maxRecDepth 100000 in
set_option maxHeartbeats 8000000 in
theorem ModelWrites_walk (s : Sp) (p : Pl) (m : Me) (p2 : Pl) (q : Req) (aq : Option Addr) (cq : Nat) (bq : Option Addr) (dq : Nat) (w : World) (hS : SpAt w w.heap.size s p) (hM : MeAt w w.heap.size m p2) (hQ : AskAt w w.heap.size q aq cq bq dq) :
    Calls Try.prog 3 #[spV s p, meV m p2, askV q aq cq bq dq] w fun e w' => e = .returned (.bool true) ∧ Below w.heap.size w w' := by
  have hqw := len_le hQ.words
  have hqb := len_le hQ.bits
  have HLI := Lib.hid (fun W (h : Below w.heap.size w W) => Light_any s p m p2 W (hS.on h) (hM.on h))
  have HAW := Lib.hid awake_any
  have HSP := Lib.hid (fun W (h : Below w.heap.size w W) => hS.on h)
  have HME := Lib.hid (fun W (h : Below w.heap.size w W) => hM.on h)
  have HQ := Lib.hid (fun W (h : Below w.heap.size w W) => (⟨sl_on hQ.words h, sl_on hQ.bits h⟩ : AskAt W W.heap.size q aq cq bq dq))
  have HFW := Lib.hid (Few_any aq q.words.length cq bq q.bits.length dq w hqw hqb)
  have HFEW := Lib.hid (fun W => Few_any aq q.words.length cq bq q.bits.length dq W hqw hqb)
  obtain ⟨⟨n, r⟩, hnr⟩ : ∃ x, doN s m q = x := ⟨_, rfl⟩
  have HNR := Lib.hid hnr
  obtain ⟨ca, cc, ia, ic, ha, hc, wa, wc⟩ := p
  obtain ⟨da, dc, ja, jc, ka, kc, xa, xc⟩ := p2
  have hsx := (SX.new w (#[.slice ca s.coils.length cc, .slice ia s.inputs.length ic, .slice ha s.holding.length hc, .slice wa s.words.length wc]) (#[.slice da m.coils.length dc, .slice ja m.inputs.length jc, .slice ka m.holding.length kc, .slice xa m.words.length xc])).one (#[b8 q.fn, b16 q.at_, b16 q.many, b16 q.to_, .slice aq q.words.length cq, .slice bq q.bits.length dq]) 31
  rw [show ((w.alloc (.cells #[.slice ca s.coils.length cc, .slice ia s.inputs.length ic, .slice ha s.holding.length hc, .slice wa s.words.length wc] 24)).alloc (.cells #[.slice da m.coils.length dc, .slice ja m.inputs.length jc, .slice ka m.holding.length kc, .slice xa m.words.length xc] 28)).heap.size = w.heap.size + 1 + 1 by simp] at hsx
  clear hS hM hQ hnr HFW
  go_enter Try.func3, Try.ntmps3
  go_wp2_with fail
  generalize ((w.alloc (.cells #[.slice ca s.coils.length cc, .slice ia s.inputs.length ic, .slice ha s.holding.length hc, .slice wa s.words.length wc] 24)).alloc (.cells #[.slice da m.coils.length dc, .slice ja m.inputs.length jc, .slice ka m.holding.length kc, .slice xa m.words.length xc] 28)).alloc (.cells #[b8 q.fn, b16 q.at_, b16 q.many, b16 q.to_, .slice aq q.words.length cq, .slice bq q.bits.length dq] 31) = W0 at *
  have K0 := Lib.hid hsx
  clear hsx
  refine (HLI.out W0 K0.out.below).mono ?_
  rintro e w1 ⟨rr, rfl, hlight, hb⟩
  have HML := Lib.hid hlight
  have K1 := Lib.hid (K0.out.on hb)
  clear hb K0 HLI hlight
  cases rr
  case false =>
    go_wp2_with fail
    refine (HAW.out _).mono ?_
    rintro e w2 ⟨rfl, hb⟩
    have K2 := Lib.hid (K1.out.on hb)
    go_wp2_with fail
    go_ret
    exact ⟨rfl, K2.out.below⟩
  have HLT := Lib.hid (HML.out rfl)
  clear HML
  have u4_ : w1.cell? ⟨w.heap.size + 1 + 1, 4, none⟩ = some (.slice aq q.words.length cq) := cell_of_row _ _ _ _ _ _ (K1.out.at_ (c := #[b8 q.fn, b16 q.at_, b16 q.many, b16 q.to_, .slice aq q.words.length cq, .slice bq q.bits.length dq]) (t := 31) (by simp))
  have u5_ : w1.cell? ⟨w.heap.size + 1 + 1, 5, none⟩ = some (.slice bq q.bits.length dq) := cell_of_row _ _ _ _ _ _ (K1.out.at_ (c := #[b8 q.fn, b16 q.at_, b16 q.many, b16 q.to_, .slice aq q.words.length cq, .slice bq q.bits.length dq]) (t := 31) (by simp))
  go_wp2_with fail
  refine (HFEW.out w1).mono ?_
  clear u4_ u5_
  by_cases hfew : q.words.length ≤ 200 ∧ q.bits.length ≤ 2100
  case neg =>
    rw [few_false hfew]
    rintro e w1' ⟨rfl, rfl⟩
    go_wp2_with fail
    refine (HAW.out _).mono ?_
    rintro e w2 ⟨rfl, hb⟩
    have K2 := Lib.hid (K1.out.on hb)
    go_wp2_with fail
    go_ret
    exact ⟨rfl, K2.out.below⟩
  rw [few_true hfew.1 hfew.2]
  rintro e w1' ⟨rfl, rfl⟩
  have HL := Lib.hid hfew
  clear hfew hqw hqb HFEW
  have HDO := Lib.hid (Do_at s ⟨ca, cc, ia, ic, ha, hc, wa, wc⟩ m ⟨da, dc, ja, jc, ka, kc, xa, xc⟩ q aq cq bq dq w1 (HSP.out w1 K1.out.below) (HME.out w1 K1.out.below) HLT.out.small (HQ.out w1 K1.out.below) (by have := HL.out; omega) (by have := HL.out; omega))
  rw [HNR.out] at HDO
  have s0_ : w1.cell? ⟨w.heap.size, 0, none⟩ = some (.slice ca s.coils.length cc) := cell_of_row _ _ _ _ _ _ K1.out.s
  have s1_ : w1.cell? ⟨w.heap.size, 1, none⟩ = some (.slice ia s.inputs.length ic) := cell_of_row _ _ _ _ _ _ K1.out.s
  have s2_ : w1.cell? ⟨w.heap.size, 2, none⟩ = some (.slice ha s.holding.length hc) := cell_of_row _ _ _ _ _ _ K1.out.s
  have s3_ : w1.cell? ⟨w.heap.size, 3, none⟩ = some (.slice wa s.words.length wc) := cell_of_row _ _ _ _ _ _ K1.out.s
  have g0_ : w1.cell? ⟨w.heap.size + 1, 0, none⟩ = some (.slice da m.coils.length dc) := cell_of_row _ _ _ _ _ _ K1.out.m
  have g1_ : w1.cell? ⟨w.heap.size + 1, 1, none⟩ = some (.slice ja m.inputs.length jc) := cell_of_row _ _ _ _ _ _ K1.out.m
  have g2_ : w1.cell? ⟨w.heap.size + 1, 2, none⟩ = some (.slice ka m.holding.length kc) := cell_of_row _ _ _ _ _ _ K1.out.m
  have g3_ : w1.cell? ⟨w.heap.size + 1, 3, none⟩ = some (.slice xa m.words.length xc) := cell_of_row _ _ _ _ _ _ K1.out.m
  have u0_ : w1.cell? ⟨w.heap.size + 1 + 1, 0, none⟩ = some (b8 q.fn) := cell_of_row _ _ _ _ _ _ (K1.out.at_ (c := #[b8 q.fn, b16 q.at_, b16 q.many, b16 q.to_, .slice aq q.words.length cq, .slice bq q.bits.length dq]) (t := 31) (by simp))
  have u1_ : w1.cell? ⟨w.heap.size + 1 + 1, 1, none⟩ = some (b16 q.at_) := cell_of_row _ _ _ _ _ _ (K1.out.at_ (c := #[b8 q.fn, b16 q.at_, b16 q.many, b16 q.to_, .slice aq q.words.length cq, .slice bq q.bits.length dq]) (t := 31) (by simp))
  have u2_ : w1.cell? ⟨w.heap.size + 1 + 1, 2, none⟩ = some (b16 q.many) := cell_of_row _ _ _ _ _ _ (K1.out.at_ (c := #[b8 q.fn, b16 q.at_, b16 q.many, b16 q.to_, .slice aq q.words.length cq, .slice bq q.bits.length dq]) (t := 31) (by simp))
  have u3_ : w1.cell? ⟨w.heap.size + 1 + 1, 3, none⟩ = some (b16 q.to_) := cell_of_row _ _ _ _ _ _ (K1.out.at_ (c := #[b8 q.fn, b16 q.at_, b16 q.many, b16 q.to_, .slice aq q.words.length cq, .slice bq q.bits.length dq]) (t := 31) (by simp))
  have u4_ : w1.cell? ⟨w.heap.size + 1 + 1, 4, none⟩ = some (.slice aq q.words.length cq) := cell_of_row _ _ _ _ _ _ (K1.out.at_ (c := #[b8 q.fn, b16 q.at_, b16 q.many, b16 q.to_, .slice aq q.words.length cq, .slice bq q.bits.length dq]) (t := 31) (by simp))
  have u5_ : w1.cell? ⟨w.heap.size + 1 + 1, 5, none⟩ = some (.slice bq q.bits.length dq) := cell_of_row _ _ _ _ _ _ (K1.out.at_ (c := #[b8 q.fn, b16 q.at_, b16 q.many, b16 q.to_, .slice aq q.words.length cq, .slice bq q.bits.length dq]) (t := 31) (by simp))
  go_wp2_with fail
  refine HDO.out.mono ?_
  clear s0_ s1_ s2_ s3_ g0_ g1_ g2_ g3_ u0_ u1_ u2_ u3_ u4_ u5_
  rintro e w2 ⟨⟨fa, fc, ga, gc, pa, pc, va, vc⟩, a1, c1, b1, e1, rfl, hm1, hr1, hb⟩
  have K2 := Lib.hid ((K1.out.on hb).two (#[.slice fa n.coils.length fc, .slice ga n.inputs.length gc, .slice pa n.holding.length pc, .slice va n.words.length vc]) (#[b8 r.fn, b8 r.ex, .slice b1 r.bits.length e1, .slice a1 r.words.length c1, b16 r.at_, b16 r.many]) 28 36)
  have hb3 := below_two w2 (.cells #[.slice fa n.coils.length fc, .slice ga n.inputs.length gc, .slice pa n.holding.length pc, .slice va n.words.length vc] 28) (.cells #[b8 r.fn, b8 r.ex, .slice b1 r.bits.length e1, .slice a1 r.words.length c1, b16 r.at_, b16 r.many] 36)
  have HA2 := Lib.hid (And.intro (hm1.on hb3) (hr1.below hb3))
  have HW2 := Lib.hid ((K1.out.on hb).below)
  clear hb K1 hm1 hr1 hb3 HDO
  have HCK := Lib.hid (Check_any s ⟨ca, cc, ia, ic, ha, hc, wa, wc⟩ q aq cq bq dq ((w2.alloc (.cells #[.slice fa n.coils.length fc, .slice ga n.inputs.length gc, .slice pa n.holding.length pc, .slice va n.words.length vc] 28)).alloc (.cells #[b8 r.fn, b8 r.ex, .slice b1 r.bits.length e1, .slice a1 r.words.length c1, b16 r.at_, b16 r.many] 36)) (HSP.out _ K2.out.below) (by have := HL.out; omega) (by have := HL.out; omega))
  have s0_ : ((w2.alloc (.cells #[.slice fa n.coils.length fc, .slice ga n.inputs.length gc, .slice pa n.holding.length pc, .slice va n.words.length vc] 28)).alloc (.cells #[b8 r.fn, b8 r.ex, .slice b1 r.bits.length e1, .slice a1 r.words.length c1, b16 r.at_, b16 r.many] 36)).cell? ⟨w.heap.size, 0, none⟩ = some (.slice ca s.coils.length cc) := cell_of_row _ _ _ _ _ _ K2.out.s
  have s1_ : ((w2.alloc (.cells #[.slice fa n.coils.length fc, .slice ga n.inputs.length gc, .slice pa n.holding.length pc, .slice va n.words.length vc] 28)).alloc (.cells #[b8 r.fn, b8 r.ex, .slice b1 r.bits.length e1, .slice a1 r.words.length c1, b16 r.at_, b16 r.many] 36)).cell? ⟨w.heap.size, 1, none⟩ = some (.slice ia s.inputs.length ic) := cell_of_row _ _ _ _ _ _ K2.out.s
  have s2_ : ((w2.alloc (.cells #[.slice fa n.coils.length fc, .slice ga n.inputs.length gc, .slice pa n.holding.length pc, .slice va n.words.length vc] 28)).alloc (.cells #[b8 r.fn, b8 r.ex, .slice b1 r.bits.length e1, .slice a1 r.words.length c1, b16 r.at_, b16 r.many] 36)).cell? ⟨w.heap.size, 2, none⟩ = some (.slice ha s.holding.length hc) := cell_of_row _ _ _ _ _ _ K2.out.s
  have s3_ : ((w2.alloc (.cells #[.slice fa n.coils.length fc, .slice ga n.inputs.length gc, .slice pa n.holding.length pc, .slice va n.words.length vc] 28)).alloc (.cells #[b8 r.fn, b8 r.ex, .slice b1 r.bits.length e1, .slice a1 r.words.length c1, b16 r.at_, b16 r.many] 36)).cell? ⟨w.heap.size, 3, none⟩ = some (.slice wa s.words.length wc) := cell_of_row _ _ _ _ _ _ K2.out.s
  have u0_ : ((w2.alloc (.cells #[.slice fa n.coils.length fc, .slice ga n.inputs.length gc, .slice pa n.holding.length pc, .slice va n.words.length vc] 28)).alloc (.cells #[b8 r.fn, b8 r.ex, .slice b1 r.bits.length e1, .slice a1 r.words.length c1, b16 r.at_, b16 r.many] 36)).cell? ⟨w.heap.size + 1 + 1, 0, none⟩ = some (b8 q.fn) := cell_of_row _ _ _ _ _ _ (K2.out.at_ (c := #[b8 q.fn, b16 q.at_, b16 q.many, b16 q.to_, .slice aq q.words.length cq, .slice bq q.bits.length dq]) (t := 31) (by simp))
  have u1_ : ((w2.alloc (.cells #[.slice fa n.coils.length fc, .slice ga n.inputs.length gc, .slice pa n.holding.length pc, .slice va n.words.length vc] 28)).alloc (.cells #[b8 r.fn, b8 r.ex, .slice b1 r.bits.length e1, .slice a1 r.words.length c1, b16 r.at_, b16 r.many] 36)).cell? ⟨w.heap.size + 1 + 1, 1, none⟩ = some (b16 q.at_) := cell_of_row _ _ _ _ _ _ (K2.out.at_ (c := #[b8 q.fn, b16 q.at_, b16 q.many, b16 q.to_, .slice aq q.words.length cq, .slice bq q.bits.length dq]) (t := 31) (by simp))
  have u2_ : ((w2.alloc (.cells #[.slice fa n.coils.length fc, .slice ga n.inputs.length gc, .slice pa n.holding.length pc, .slice va n.words.length vc] 28)).alloc (.cells #[b8 r.fn, b8 r.ex, .slice b1 r.bits.length e1, .slice a1 r.words.length c1, b16 r.at_, b16 r.many] 36)).cell? ⟨w.heap.size + 1 + 1, 2, none⟩ = some (b16 q.many) := cell_of_row _ _ _ _ _ _ (K2.out.at_ (c := #[b8 q.fn, b16 q.at_, b16 q.many, b16 q.to_, .slice aq q.words.length cq, .slice bq q.bits.length dq]) (t := 31) (by simp))
  have u3_ : ((w2.alloc (.cells #[.slice fa n.coils.length fc, .slice ga n.inputs.length gc, .slice pa n.holding.length pc, .slice va n.words.length vc] 28)).alloc (.cells #[b8 r.fn, b8 r.ex, .slice b1 r.bits.length e1, .slice a1 r.words.length c1, b16 r.at_, b16 r.many] 36)).cell? ⟨w.heap.size + 1 + 1, 3, none⟩ = some (b16 q.to_) := cell_of_row _ _ _ _ _ _ (K2.out.at_ (c := #[b8 q.fn, b16 q.at_, b16 q.many, b16 q.to_, .slice aq q.words.length cq, .slice bq q.bits.length dq]) (t := 31) (by simp))
  have u4_ : ((w2.alloc (.cells #[.slice fa n.coils.length fc, .slice ga n.inputs.length gc, .slice pa n.holding.length pc, .slice va n.words.length vc] 28)).alloc (.cells #[b8 r.fn, b8 r.ex, .slice b1 r.bits.length e1, .slice a1 r.words.length c1, b16 r.at_, b16 r.many] 36)).cell? ⟨w.heap.size + 1 + 1, 4, none⟩ = some (.slice aq q.words.length cq) := cell_of_row _ _ _ _ _ _ (K2.out.at_ (c := #[b8 q.fn, b16 q.at_, b16 q.many, b16 q.to_, .slice aq q.words.length cq, .slice bq q.bits.length dq]) (t := 31) (by simp))
  have u5_ : ((w2.alloc (.cells #[.slice fa n.coils.length fc, .slice ga n.inputs.length gc, .slice pa n.holding.length pc, .slice va n.words.length vc] 28)).alloc (.cells #[b8 r.fn, b8 r.ex, .slice b1 r.bits.length e1, .slice a1 r.words.length c1, b16 r.at_, b16 r.many] 36)).cell? ⟨w.heap.size + 1 + 1, 5, none⟩ = some (.slice bq q.bits.length dq) := cell_of_row _ _ _ _ _ _ (K2.out.at_ (c := #[b8 q.fn, b16 q.at_, b16 q.many, b16 q.to_, .slice aq q.words.length cq, .slice bq q.bits.length dq]) (t := 31) (by simp))
  go_wp2_with fail
  generalize hZ : ((w2.alloc (.cells #[.slice fa n.coils.length fc, .slice ga n.inputs.length gc, .slice pa n.holding.length pc, .slice va n.words.length vc] 28)).alloc (.cells #[b8 r.fn, b8 r.ex, .slice b1 r.bits.length e1, .slice a1 r.words.length c1, b16 r.at_, b16 r.many] 36)) = Z2 at *
  clear s0_ s1_ s2_ s3_ u0_ u1_ u2_ u3_ u4_ u5_
  clear hZ
  refine HCK.out.mono ?_
  rintro e w3 ⟨rfl, hb⟩
  have K3 : Hid (SXB w Z2 w3 _ _ _) := Lib.hid ⟨K2.out.on hb, hb⟩
  clear hb K2 HCK
  have HSAME := Lib.hid (fun W (hW : Below Z2.heap.size Z2 W) (hw : Below w.heap.size w W) => same_any n m ⟨fa, fc, ga, gc, pa, pc, va, vc⟩ ⟨da, dc, ja, jc, ka, kc, xa, xc⟩ W (HA2.out.1.on hW) (HME.out W hw))
  have HRM := Lib.hid (fun W (hw : Below w.heap.size w W) => MRight_any s m ⟨ca, cc, ia, ic, ha, hc, wa, wc⟩ ⟨da, dc, ja, jc, ka, kc, xa, xc⟩ W (HSP.out W hw) (HME.out W hw) HLT.out.small)
  have HRN := Lib.hid (fun W (hW : Below Z2.heap.size Z2 W) (hw : Below w.heap.size w W) => MRight_any s n ⟨ca, cc, ia, ic, ha, hc, wa, wc⟩ ⟨fa, fc, ga, gc, pa, pc, va, vc⟩ W (HSP.out W hw) (HA2.out.1.on hW) (by have h := do_small HLT.out.small s q; rw [HNR.out] at h; exact h))
  have HFT := Lib.hid (fun W (hW : Below Z2.heap.size Z2 W) (hw : Below w.heap.size w W) => Fits_any q aq cq bq dq r a1 c1 b1 e1 W (HQ.out W hw) (HA2.out.2.below hW) (by have := HL.out; omega) (by have := HL.out; omega))
  have HBI := Lib.hid (fun W (hW : Below Z2.heap.size Z2 W) (hw : Below w.heap.size w W) => (LowBits_any _ _ _ _ _ _ _ _ _ _ W (HA2.out.1.on hW).inputs (HME.out W hw).inputs).mono fun _ _ h => SaysD.says h)
  have HWO := Lib.hid (fun W (hW : Below Z2.heap.size Z2 W) (hw : Below w.heap.size w W) => (LowWords_any _ _ _ _ _ _ _ _ _ _ W (HA2.out.1.on hW).words (HME.out W hw).words).mono fun _ _ h => SaysD.says h)
  have y1_ : w3.cell? ⟨w2.heap.size + 1, 1, none⟩ = some (b8 r.ex) := cell_of_row _ _ _ _ _ _ (K3.out.at_ (c := #[b8 r.fn, b8 r.ex, .slice b1 r.bits.length e1, .slice a1 r.words.length c1, b16 r.at_, b16 r.many]) (t := 36) (by simp))
  by_cases hx : r.ex = 0
  case neg =>
    obtain ⟨hnm, hcase⟩ := writes_no HNR.out hx
    have hx1 : ((r.ex.toNat : Int) != 0) = true := by
      simp
      exact fun e => hx (UInt8.toNat_inj.1 (by simpa using e))
    have HC := Lib.hid hcase
    have HNM := Lib.hid hnm
    clear hcase hx hnm
    have n0_ : w3.cell? ⟨w2.heap.size, 0, none⟩ = some (.slice fa n.coils.length fc) := cell_of_row _ _ _ _ _ _ (K3.out.at_ (c := #[.slice fa n.coils.length fc, .slice ga n.inputs.length gc, .slice pa n.holding.length pc, .slice va n.words.length vc]) (t := 28) (by simp))
    have n1_ : w3.cell? ⟨w2.heap.size, 1, none⟩ = some (.slice ga n.inputs.length gc) := cell_of_row _ _ _ _ _ _ (K3.out.at_ (c := #[.slice fa n.coils.length fc, .slice ga n.inputs.length gc, .slice pa n.holding.length pc, .slice va n.words.length vc]) (t := 28) (by simp))
    have n2_ : w3.cell? ⟨w2.heap.size, 2, none⟩ = some (.slice pa n.holding.length pc) := cell_of_row _ _ _ _ _ _ (K3.out.at_ (c := #[.slice fa n.coils.length fc, .slice ga n.inputs.length gc, .slice pa n.holding.length pc, .slice va n.words.length vc]) (t := 28) (by simp))
    have n3_ : w3.cell? ⟨w2.heap.size, 3, none⟩ = some (.slice va n.words.length vc) := cell_of_row _ _ _ _ _ _ (K3.out.at_ (c := #[.slice fa n.coils.length fc, .slice ga n.inputs.length gc, .slice pa n.holding.length pc, .slice va n.words.length vc]) (t := 28) (by simp))
    have g0_ : w3.cell? ⟨w.heap.size + 1, 0, none⟩ = some (.slice da m.coils.length dc) := cell_of_row _ _ _ _ _ _ K3.out.m
    have g1_ : w3.cell? ⟨w.heap.size + 1, 1, none⟩ = some (.slice ja m.inputs.length jc) := cell_of_row _ _ _ _ _ _ K3.out.m
    have g2_ : w3.cell? ⟨w.heap.size + 1, 2, none⟩ = some (.slice ka m.holding.length kc) := cell_of_row _ _ _ _ _ _ K3.out.m
    have g3_ : w3.cell? ⟨w.heap.size + 1, 3, none⟩ = some (.slice xa m.words.length xc) := cell_of_row _ _ _ _ _ _ K3.out.m
    go_wp2_with fail
    refine (HSAME.out w3 K3.out.on_ K3.out.sx.below).mono ?_
    rw [decide_eq_true HNM.out]
    rintro e w4 ⟨rfl, hb⟩
    have K4 := Lib.hid (K3.out.next hb)
    clear n0_ n1_ n2_ n3_ g0_ g1_ g2_ g3_
    clear hb K3 y1_
    have y1_ : w4.cell? ⟨w2.heap.size + 1, 1, none⟩ = some (b8 r.ex) := cell_of_row _ _ _ _ _ _ (K4.out.at_ (c := #[b8 r.fn, b8 r.ex, .slice b1 r.bits.length e1, .slice a1 r.words.length c1, b16 r.at_, b16 r.many]) (t := 36) (by simp))
    have s0_ : w4.cell? ⟨w.heap.size, 0, none⟩ = some (.slice ca s.coils.length cc) := cell_of_row _ _ _ _ _ _ K4.out.s
    have s1_ : w4.cell? ⟨w.heap.size, 1, none⟩ = some (.slice ia s.inputs.length ic) := cell_of_row _ _ _ _ _ _ K4.out.s
    have s2_ : w4.cell? ⟨w.heap.size, 2, none⟩ = some (.slice ha s.holding.length hc) := cell_of_row _ _ _ _ _ _ K4.out.s
    have s3_ : w4.cell? ⟨w.heap.size, 3, none⟩ = some (.slice wa s.words.length wc) := cell_of_row _ _ _ _ _ _ K4.out.s
    have g0_ : w4.cell? ⟨w.heap.size + 1, 0, none⟩ = some (.slice da m.coils.length dc) := cell_of_row _ _ _ _ _ _ K4.out.m
    have g1_ : w4.cell? ⟨w.heap.size + 1, 1, none⟩ = some (.slice ja m.inputs.length jc) := cell_of_row _ _ _ _ _ _ K4.out.m
    have g2_ : w4.cell? ⟨w.heap.size + 1, 2, none⟩ = some (.slice ka m.holding.length kc) := cell_of_row _ _ _ _ _ _ K4.out.m
    have g3_ : w4.cell? ⟨w.heap.size + 1, 3, none⟩ = some (.slice xa m.words.length xc) := cell_of_row _ _ _ _ _ _ K4.out.m
    rcases HC.out with hck | ⟨hck, hex, hmr⟩
    · have t1 : (((checkN s q : Nat) : Int) == (r.ex.toNat : Int)) = true := by rw [hck]; simp
      generalize checkN s q = X at *
      clear hck HC
      go_wp2_with fail
      refine (HAW.out _).mono ?_
      rintro e w5 ⟨rfl, hb⟩
      have K5 := Lib.hid (K4.out.next hb)
      go_wp2_with fail
      go_ret
      exact ⟨rfl, K5.out.sx.below⟩
    · have t1 : (((checkN s q : Nat) : Int) == (r.ex.toNat : Int)) = false := by rw [hck, hex]; rfl
      have t2 : (((checkN s q : Nat) : Int) == 0) = true := by rw [hck]; rfl
      have t3 : ((r.ex.toNat : Int) == 4) = true := by rw [hex]; rfl
      generalize checkN s q = X at *
      clear hck hex HC
      go_wp2_with fail
      refine (HRM.out w4 K4.out.sx.below).mono ?_
      rw [hmr]
      rintro e w5 ⟨rfl, hb⟩
      have K5 := Lib.hid (K4.out.next hb)
      clear hb K4
      clear y1_ s0_ s1_ s2_ s3_ g0_ g1_ g2_ g3_
      go_wp2_with fail
      refine (HAW.out _).mono ?_
      rintro e w6 ⟨rfl, hb⟩
      have K6 := Lib.hid (K5.out.next hb)
      go_wp2_with fail
      go_ret
      exact ⟨rfl, K6.out.sx.below⟩
  have hx1 : ((r.ex.toNat : Int) != 0) = false := by rw [hx]; rfl
  have HWR := Lib.hid (writes_yes HNR.out hx)
  have t1 : (((checkN s q : Nat) : Int) != 0) = false := by rw [HWR.out.check]; rfl
  generalize checkN s q = X at *
  clear hx
  have u0_ : w3.cell? ⟨w.heap.size + 1 + 1, 0, none⟩ = some (b8 q.fn) := cell_of_row _ _ _ _ _ _ (K3.out.at_ (c := #[b8 q.fn, b16 q.at_, b16 q.many, b16 q.to_, .slice aq q.words.length cq, .slice bq q.bits.length dq]) (t := 31) (by simp))
  have u1_ : w3.cell? ⟨w.heap.size + 1 + 1, 1, none⟩ = some (b16 q.at_) := cell_of_row _ _ _ _ _ _ (K3.out.at_ (c := #[b8 q.fn, b16 q.at_, b16 q.many, b16 q.to_, .slice aq q.words.length cq, .slice bq q.bits.length dq]) (t := 31) (by simp))
  have u2_ : w3.cell? ⟨w.heap.size + 1 + 1, 2, none⟩ = some (b16 q.many) := cell_of_row _ _ _ _ _ _ (K3.out.at_ (c := #[b8 q.fn, b16 q.at_, b16 q.many, b16 q.to_, .slice aq q.words.length cq, .slice bq q.bits.length dq]) (t := 31) (by simp))
  have u3_ : w3.cell? ⟨w.heap.size + 1 + 1, 3, none⟩ = some (b16 q.to_) := cell_of_row _ _ _ _ _ _ (K3.out.at_ (c := #[b8 q.fn, b16 q.at_, b16 q.many, b16 q.to_, .slice aq q.words.length cq, .slice bq q.bits.length dq]) (t := 31) (by simp))
  have u4_ : w3.cell? ⟨w.heap.size + 1 + 1, 4, none⟩ = some (.slice aq q.words.length cq) := cell_of_row _ _ _ _ _ _ (K3.out.at_ (c := #[b8 q.fn, b16 q.at_, b16 q.many, b16 q.to_, .slice aq q.words.length cq, .slice bq q.bits.length dq]) (t := 31) (by simp))
  have u5_ : w3.cell? ⟨w.heap.size + 1 + 1, 5, none⟩ = some (.slice bq q.bits.length dq) := cell_of_row _ _ _ _ _ _ (K3.out.at_ (c := #[b8 q.fn, b16 q.at_, b16 q.many, b16 q.to_, .slice aq q.words.length cq, .slice bq q.bits.length dq]) (t := 31) (by simp))
  have y0_ : w3.cell? ⟨w2.heap.size + 1, 0, none⟩ = some (b8 r.fn) := cell_of_row _ _ _ _ _ _ (K3.out.at_ (c := #[b8 r.fn, b8 r.ex, .slice b1 r.bits.length e1, .slice a1 r.words.length c1, b16 r.at_, b16 r.many]) (t := 36) (by simp))
  have y2_ : w3.cell? ⟨w2.heap.size + 1, 2, none⟩ = some (.slice b1 r.bits.length e1) := cell_of_row _ _ _ _ _ _ (K3.out.at_ (c := #[b8 r.fn, b8 r.ex, .slice b1 r.bits.length e1, .slice a1 r.words.length c1, b16 r.at_, b16 r.many]) (t := 36) (by simp))
  have y3_ : w3.cell? ⟨w2.heap.size + 1, 3, none⟩ = some (.slice a1 r.words.length c1) := cell_of_row _ _ _ _ _ _ (K3.out.at_ (c := #[b8 r.fn, b8 r.ex, .slice b1 r.bits.length e1, .slice a1 r.words.length c1, b16 r.at_, b16 r.many]) (t := 36) (by simp))
  have y4_ : w3.cell? ⟨w2.heap.size + 1, 4, none⟩ = some (b16 r.at_) := cell_of_row _ _ _ _ _ _ (K3.out.at_ (c := #[b8 r.fn, b8 r.ex, .slice b1 r.bits.length e1, .slice a1 r.words.length c1, b16 r.at_, b16 r.many]) (t := 36) (by simp))
  have y5_ : w3.cell? ⟨w2.heap.size + 1, 5, none⟩ = some (b16 r.many) := cell_of_row _ _ _ _ _ _ (K3.out.at_ (c := #[b8 r.fn, b8 r.ex, .slice b1 r.bits.length e1, .slice a1 r.words.length c1, b16 r.at_, b16 r.many]) (t := 36) (by simp))
  go_wp2_with fail
  refine (HFT.out w3 K3.out.on_ K3.out.sx.below).mono ?_
  rw [HWR.out.fits]
  rintro e w4 ⟨rfl, hb⟩
  have K4 := Lib.hid (K3.out.next hb)
  clear hb K3
  clear y1_ u0_ u1_ u2_ u3_ u4_ u5_ y0_ y2_ y3_ y4_ y5_
  have s0_ : w4.cell? ⟨w.heap.size, 0, none⟩ = some (.slice ca s.coils.length cc) := cell_of_row _ _ _ _ _ _ K4.out.s
  have s1_ : w4.cell? ⟨w.heap.size, 1, none⟩ = some (.slice ia s.inputs.length ic) := cell_of_row _ _ _ _ _ _ K4.out.s
  have s2_ : w4.cell? ⟨w.heap.size, 2, none⟩ = some (.slice ha s.holding.length hc) := cell_of_row _ _ _ _ _ _ K4.out.s
  have s3_ : w4.cell? ⟨w.heap.size, 3, none⟩ = some (.slice wa s.words.length wc) := cell_of_row _ _ _ _ _ _ K4.out.s
  have n0_ : w4.cell? ⟨w2.heap.size, 0, none⟩ = some (.slice fa n.coils.length fc) := cell_of_row _ _ _ _ _ _ (K4.out.at_ (c := #[.slice fa n.coils.length fc, .slice ga n.inputs.length gc, .slice pa n.holding.length pc, .slice va n.words.length vc]) (t := 28) (by simp))
  have n1_ : w4.cell? ⟨w2.heap.size, 1, none⟩ = some (.slice ga n.inputs.length gc) := cell_of_row _ _ _ _ _ _ (K4.out.at_ (c := #[.slice fa n.coils.length fc, .slice ga n.inputs.length gc, .slice pa n.holding.length pc, .slice va n.words.length vc]) (t := 28) (by simp))
  have n2_ : w4.cell? ⟨w2.heap.size, 2, none⟩ = some (.slice pa n.holding.length pc) := cell_of_row _ _ _ _ _ _ (K4.out.at_ (c := #[.slice fa n.coils.length fc, .slice ga n.inputs.length gc, .slice pa n.holding.length pc, .slice va n.words.length vc]) (t := 28) (by simp))
  have n3_ : w4.cell? ⟨w2.heap.size, 3, none⟩ = some (.slice va n.words.length vc) := cell_of_row _ _ _ _ _ _ (K4.out.at_ (c := #[.slice fa n.coils.length fc, .slice ga n.inputs.length gc, .slice pa n.holding.length pc, .slice va n.words.length vc]) (t := 28) (by simp))
  go_wp2_with fail
  refine (HRN.out w4 K4.out.on_ K4.out.sx.below).mono ?_
  rw [HWR.out.right]
  rintro e w5 ⟨rfl, hb⟩
  have K5 := Lib.hid (K4.out.next hb)
  clear hb K4
  clear s0_ s1_ s2_ s3_ n0_ n1_ n2_ n3_
  have n0_ : w5.cell? ⟨w2.heap.size, 0, none⟩ = some (.slice fa n.coils.length fc) := cell_of_row _ _ _ _ _ _ (K5.out.at_ (c := #[.slice fa n.coils.length fc, .slice ga n.inputs.length gc, .slice pa n.holding.length pc, .slice va n.words.length vc]) (t := 28) (by simp))
  have n1_ : w5.cell? ⟨w2.heap.size, 1, none⟩ = some (.slice ga n.inputs.length gc) := cell_of_row _ _ _ _ _ _ (K5.out.at_ (c := #[.slice fa n.coils.length fc, .slice ga n.inputs.length gc, .slice pa n.holding.length pc, .slice va n.words.length vc]) (t := 28) (by simp))
  have n2_ : w5.cell? ⟨w2.heap.size, 2, none⟩ = some (.slice pa n.holding.length pc) := cell_of_row _ _ _ _ _ _ (K5.out.at_ (c := #[.slice fa n.coils.length fc, .slice ga n.inputs.length gc, .slice pa n.holding.length pc, .slice va n.words.length vc]) (t := 28) (by simp))
  have n3_ : w5.cell? ⟨w2.heap.size, 3, none⟩ = some (.slice va n.words.length vc) := cell_of_row _ _ _ _ _ _ (K5.out.at_ (c := #[.slice fa n.coils.length fc, .slice ga n.inputs.length gc, .slice pa n.holding.length pc, .slice va n.words.length vc]) (t := 28) (by simp))
  have g0_ : w5.cell? ⟨w.heap.size + 1, 0, none⟩ = some (.slice da m.coils.length dc) := cell_of_row _ _ _ _ _ _ K5.out.m
  have g1_ : w5.cell? ⟨w.heap.size + 1, 1, none⟩ = some (.slice ja m.inputs.length jc) := cell_of_row _ _ _ _ _ _ K5.out.m
  have g2_ : w5.cell? ⟨w.heap.size + 1, 2, none⟩ = some (.slice ka m.holding.length kc) := cell_of_row _ _ _ _ _ _ K5.out.m
  have g3_ : w5.cell? ⟨w.heap.size + 1, 3, none⟩ = some (.slice xa m.words.length xc) := cell_of_row _ _ _ _ _ _ K5.out.m
  have l1 : ((n.holding.length : Int) != (m.holding.length : Int)) = false := by rw [HWR.out.lh]; simp
  have l2 : ((n.coils.length : Int) != (m.coils.length : Int)) = false := by rw [HWR.out.lc]; simp
  go_wp2_with fail
  refine (HBI.out w5 K5.out.on_ K5.out.sx.below).mono ?_
  rw [decide_eq_true HWR.out.inputs]
  rintro e w6 ⟨rfl, hb⟩
  have K6 := Lib.hid (K5.out.next hb)
  clear hb K5
  clear n0_ n1_ n2_ n3_ g0_ g1_ g2_ g3_
  have n3_ : w6.cell? ⟨w2.heap.size, 3, none⟩ = some (.slice va n.words.length vc) := cell_of_row _ _ _ _ _ _ (K6.out.at_ (c := #[.slice fa n.coils.length fc, .slice ga n.inputs.length gc, .slice pa n.holding.length pc, .slice va n.words.length vc]) (t := 28) (by simp))
  have g3_ : w6.cell? ⟨w.heap.size + 1, 3, none⟩ = some (.slice xa m.words.length xc) := cell_of_row _ _ _ _ _ _ K6.out.m
  go_wp2_with fail
  refine (HWO.out w6 K6.out.on_ K6.out.sx.below).mono ?_
  rw [decide_eq_true HWR.out.words]
  rintro e w7 ⟨rfl, hb⟩
  have K7 := Lib.hid (K6.out.next hb)
  clear hb K6 l1 l2 HSAME HRM HRN HFT HBI HWO HSP
  clear n3_ g3_
  have n0_ : w7.cell? ⟨w2.heap.size, 0, none⟩ = some (.slice fa n.coils.length fc) := cell_of_row _ _ _ _ _ _ (K7.out.at_ (c := #[.slice fa n.coils.length fc, .slice ga n.inputs.length gc, .slice pa n.holding.length pc, .slice va n.words.length vc]) (t := 28) (by simp))
  have n2_ : w7.cell? ⟨w2.heap.size, 2, none⟩ = some (.slice pa n.holding.length pc) := cell_of_row _ _ _ _ _ _ (K7.out.at_ (c := #[.slice fa n.coils.length fc, .slice ga n.inputs.length gc, .slice pa n.holding.length pc, .slice va n.words.length vc]) (t := 28) (by simp))
  have g0_ : w7.cell? ⟨w.heap.size + 1, 0, none⟩ = some (.slice da m.coils.length dc) := cell_of_row _ _ _ _ _ _ K7.out.m
  have g2_ : w7.cell? ⟨w.heap.size + 1, 2, none⟩ = some (.slice ka m.holding.length kc) := cell_of_row _ _ _ _ _ _ K7.out.m
  have u0_ : w7.cell? ⟨w.heap.size + 1 + 1, 0, none⟩ = some (b8 q.fn) := cell_of_row _ _ _ _ _ _ (K7.out.at_ (c := #[b8 q.fn, b16 q.at_, b16 q.many, b16 q.to_, .slice aq q.words.length cq, .slice bq q.bits.length dq]) (t := 31) (by simp))
  have u1_ : w7.cell? ⟨w.heap.size + 1 + 1, 1, none⟩ = some (b16 q.at_) := cell_of_row _ _ _ _ _ _ (K7.out.at_ (c := #[b8 q.fn, b16 q.at_, b16 q.many, b16 q.to_, .slice aq q.words.length cq, .slice bq q.bits.length dq]) (t := 31) (by simp))
  have u3_ : w7.cell? ⟨w.heap.size + 1 + 1, 3, none⟩ = some (b16 q.to_) := cell_of_row _ _ _ _ _ _ (K7.out.at_ (c := #[b8 q.fn, b16 q.at_, b16 q.many, b16 q.to_, .slice aq q.words.length cq, .slice bq q.bits.length dq]) (t := 31) (by simp))
  have u4_ : w7.cell? ⟨w.heap.size + 1 + 1, 4, none⟩ = some (.slice aq q.words.length cq) := cell_of_row _ _ _ _ _ _ (K7.out.at_ (c := #[b8 q.fn, b16 q.at_, b16 q.many, b16 q.to_, .slice aq q.words.length cq, .slice bq q.bits.length dq]) (t := 31) (by simp))
  have u5_ : w7.cell? ⟨w.heap.size + 1 + 1, 5, none⟩ = some (.slice bq q.bits.length dq) := cell_of_row _ _ _ _ _ _ (K7.out.at_ (c := #[b8 q.fn, b16 q.at_, b16 q.many, b16 q.to_, .slice aq q.words.length cq, .slice bq q.bits.length dq]) (t := 31) (by simp))
  obtain ⟨TT, hTT⟩ : ∃ t, targetN q = t := ⟨_, rfl⟩
  have hT6 : TT < 65536 := by rw [← hTT]; unfold targetN; have := q.at_.toNat_lt; have := q.to_.toNat_lt; split <;> omega
  have HN7 := Lib.hid (HA2.out.1.on K7.out.on_)
  have HM7 := Lib.hid (HME.out w7 K7.out.sx.below)
  have HQ7 := Lib.hid (HQ.out w7 K7.out.sx.below)
  clear HQ HME HA2
  have HT0 := Lib.hid hTT
  have HNS : Hid (MeSmall n) := Lib.hid (by have h := do_small HLT.out.small s q; rw [HNR.out] at h; exact h)
  have hgo : (q.fn.toNat = 23 ∧ TT = q.to_.toNat) ∨ (q.fn.toNat ≠ 23 ∧ TT = q.at_.toNat) := by
    rw [← hTT]
    unfold targetN
    by_cases h : q.fn.toNat = 23
    · exact .inl ⟨h, if_pos h⟩
    · exact .inr ⟨h, if_neg h⟩
  clear hTT
  rcases hgo with ⟨h23, hTo⟩ | ⟨h23, hTo⟩
  · have t23 : ((q.fn.toNat : Int) == 23) = true := by rw [h23]; rfl
    clear h23
    go_wp2_with fail
    rw [← hTo]
    clear hTo
    go_loop [128] (fun i => ∃ k : Nat, k ≤ n.holding.length ∧ i = .int .i64 k) (fun i => n.holding.length - (intOf i).toNat)
    case atStart => exact ⟨0, Nat.zero_le _, rfl⟩
    case round =>
      obtain ⟨k, hk, rfl⟩ := hrel
      by_cases hlt : k < n.holding.length
      · have hmlen : m.holding.length = n.holding.length := HWR.out.lh.symm
        obtain ⟨bx, ox, x, ex1, _, gx, cx⟩ := HM7.out.holding.at_ (k := k) (by rw [hmlen]; exact hlt)
        obtain ⟨by_, oy, y, ey1, _, gy, cy⟩ := HN7.out.holding.at_ (k := k) hlt
        have hget := HWR.out.hold k
        rw [HT0.out, gx, gy] at hget
        have i1 : (0 : Int) ≤ (k : Int) := by omega
        have i2 : (k : Int) < (m.holding.length : Int) := by rw [hmlen]; omega
        have i3 : (k : Int) < (n.holding.length : Int) := by omega
        have tk : decide ((k : Int) < (n.holding.length : Int)) = true := by simp; omega
        clear hmlen gx gy
        by_cases hin : TT ≤ k ∧ k - TT < q.words.length
        · rw [if_pos hin] at hget
          obtain ⟨d, hd⟩ : ∃ d, k = TT + d := ⟨k - TT, by omega⟩
          obtain ⟨bz, oz, z, ez1, _, gz, cz⟩ := HQ7.out.words.at_ (k := d) (by omega)
          have hz : y = z := by
            rw [show k - TT = d by omega, gz] at hget
            exact Option.some.inj hget
          have tA : decide ((TT : Int) ≤ (k : Int)) = true := by simp; omega
          have hdk : (k : Int) - (TT : Int) = (d : Int) := by omega
          have hd63 : d ≤ 1000000 := by have := HNS.out.holding; omega
          have tB : decide ((d : Int) < (q.words.length : Int)) = true := by simp; omega
          have j1 : (0 : Int) ≤ (d : Int) := by omega
          have j2 : (d : Int) < (q.words.length : Int) := by omega
          subst hz
          clear hget gz hin hd
          subst ex1 ey1 ez1
          go_wp2_with fail
          go_round
          case rel => exact ⟨k + 1, by omega, by go_num⟩
          case measure => simp [intOf]; omega
        · rw [if_neg hin] at hget
          have hz : y = x := Option.some.inj hget
          subst hz
          clear hget
          by_cases hA : TT ≤ k
          · have tA : decide ((TT : Int) ≤ (k : Int)) = true := by simp; omega
            obtain ⟨d, hd⟩ : ∃ d, k = TT + d := ⟨k - TT, by omega⟩
            have hdk : (k : Int) - (TT : Int) = (d : Int) := by omega
            have hd63 : d ≤ 1000000 := by have := HNS.out.holding; omega
            have tB : decide ((d : Int) < (q.words.length : Int)) = false := by simp; omega
            have tBn : decide (d < q.words.length) = false := by simp; omega
            have tBk : ¬ d < q.words.length := by omega
            clear hin hd
            subst ex1 ey1
            go_wp2_with fail
            go_round
            case rel => exact ⟨k + 1, by omega, by go_num⟩
            case measure => simp [intOf]; omega
          · have tA : decide ((TT : Int) ≤ (k : Int)) = false := by simp; omega
            clear hin
            subst ex1 ey1
            go_wp2_with fail
            go_round
            case rel => exact ⟨k + 1, by omega, by go_num⟩
            case measure => simp [intOf]; omega
      · obtain rfl : k = n.holding.length := by omega
        have tk : decide ((n.holding.length : Int) < (n.holding.length : Int)) = false := by simp
        go_wp2_with fail
        go_loop [166] (fun i => ∃ k : Nat, k ≤ n.coils.length ∧ i = .int .i64 k) (fun i => n.coils.length - (intOf i).toNat)
        case atStart => exact ⟨0, Nat.zero_le _, rfl⟩
        case round =>
          obtain ⟨k, hk, rfl⟩ := hrel
          by_cases hlt : k < n.coils.length
          · have hmlen : m.coils.length = n.coils.length := HWR.out.lc.symm
            obtain ⟨bx, ox, x, ex1, _, gx, cx⟩ := HM7.out.coils.at_ (k := k) (by rw [hmlen]; exact hlt)
            obtain ⟨by_, oy, y, ey1, _, gy, cy⟩ := HN7.out.coils.at_ (k := k) hlt
            have hget := HWR.out.coil k
            rw [HT0.out, gx, gy] at hget
            have i1 : (0 : Int) ≤ (k : Int) := by omega
            have i2 : (k : Int) < (m.coils.length : Int) := by rw [hmlen]; omega
            have i3 : (k : Int) < (n.coils.length : Int) := by omega
            have tk : decide ((k : Int) < (n.coils.length : Int)) = true := by simp; omega
            clear hmlen gx gy
            by_cases hin : TT ≤ k ∧ k - TT < q.bits.length
            · rw [if_pos hin] at hget
              obtain ⟨d, hd⟩ : ∃ d, k = TT + d := ⟨k - TT, by omega⟩
              obtain ⟨bz, oz, z, ez1, _, gz, cz⟩ := HQ7.out.bits.at_ (k := d) (by omega)
              have hz : y = z := by
                rw [show k - TT = d by omega, gz] at hget
                exact Option.some.inj hget
              have tA : decide ((TT : Int) ≤ (k : Int)) = true := by simp; omega
              have hdk : (k : Int) - (TT : Int) = (d : Int) := by omega
              have hd63 : d ≤ 1000000 := by have := HNS.out.coils; omega
              have tB : decide ((d : Int) < (q.bits.length : Int)) = true := by simp; omega
              have j1 : (0 : Int) ≤ (d : Int) := by omega
              have j2 : (d : Int) < (q.bits.length : Int) := by omega
              subst hz
              clear hget gz hin hd
              subst ex1 ey1 ez1
              go_wp2_with fail
              go_round
              case rel => exact ⟨k + 1, by omega, by go_num⟩
              case measure => simp [intOf]; omega
            · rw [if_neg hin] at hget
              have hz : y = x := Option.some.inj hget
              subst hz
              clear hget
              by_cases hA : TT ≤ k
              · have tA : decide ((TT : Int) ≤ (k : Int)) = true := by simp; omega
                obtain ⟨d, hd⟩ : ∃ d, k = TT + d := ⟨k - TT, by omega⟩
                have hdk : (k : Int) - (TT : Int) = (d : Int) := by omega
                have hd63 : d ≤ 1000000 := by have := HNS.out.coils; omega
                have tB : decide ((d : Int) < (q.bits.length : Int)) = false := by simp; omega
                have tBn : decide (d < q.bits.length) = false := by simp; omega
                have tBk : ¬ d < q.bits.length := by omega
                clear hin hd
                subst ex1 ey1
                go_wp2_with fail
                go_round
                case rel => exact ⟨k + 1, by omega, by go_num⟩
                case measure => simp [intOf]; omega
              · have tA : decide ((TT : Int) ≤ (k : Int)) = false := by simp; omega
                clear hin
                subst ex1 ey1
                go_wp2_with fail
                go_round
                case rel => exact ⟨k + 1, by omega, by go_num⟩
                case measure => simp [intOf]; omega
          · obtain rfl : k = n.coils.length := by omega
            have tk : decide ((n.coils.length : Int) < (n.coils.length : Int)) = false := by simp
            have F1 := Lib.hid HWR.out.inb
            have F2 := Lib.hid HWR.out.inw
            rw [HT0.out] at F1 F2
            have hq1 : q.bits.length ≤ 2100 := HL.out.2
            have hq2 : q.words.length ≤ 200 := HL.out.1
            go_wp2_with fail
            all_goals first
              | (exfalso; have := F1.out; have := F2.out; omega)
              | skip
            all_goals
              refine (HAW.out _).mono ?_
              rintro e w8 ⟨rfl, hb⟩
              have K8 := Lib.hid (K7.out.next hb)
              go_wp2_with fail
              go_ret
              exact ⟨rfl, K8.out.sx.below⟩
  · have t23 : ((q.fn.toNat : Int) == 23) = false := by simp; omega
    clear h23
    go_wp2_with fail
    rw [← hTo]
    clear hTo
    go_loop [128] (fun i => ∃ k : Nat, k ≤ n.holding.length ∧ i = .int .i64 k) (fun i => n.holding.length - (intOf i).toNat)
    case atStart => exact ⟨0, Nat.zero_le _, rfl⟩
    case round =>
      obtain ⟨k, hk, rfl⟩ := hrel
      by_cases hlt : k < n.holding.length
      · have hmlen : m.holding.length = n.holding.length := HWR.out.lh.symm
        obtain ⟨bx, ox, x, ex1, _, gx, cx⟩ := HM7.out.holding.at_ (k := k) (by rw [hmlen]; exact hlt)
        obtain ⟨by_, oy, y, ey1, _, gy, cy⟩ := HN7.out.holding.at_ (k := k) hlt
        have hget := HWR.out.hold k
        rw [HT0.out, gx, gy] at hget
        have i1 : (0 : Int) ≤ (k : Int) := by omega
        have i2 : (k : Int) < (m.holding.length : Int) := by rw [hmlen]; omega
        have i3 : (k : Int) < (n.holding.length : Int) := by omega
        have tk : decide ((k : Int) < (n.holding.length : Int)) = true := by simp; omega
        clear hmlen gx gy
        by_cases hin : TT ≤ k ∧ k - TT < q.words.length
        · rw [if_pos hin] at hget
          obtain ⟨d, hd⟩ : ∃ d, k = TT + d := ⟨k - TT, by omega⟩
          obtain ⟨bz, oz, z, ez1, _, gz, cz⟩ := HQ7.out.words.at_ (k := d) (by omega)
          have hz : y = z := by
            rw [show k - TT = d by omega, gz] at hget
            exact Option.some.inj hget
          have tA : decide ((TT : Int) ≤ (k : Int)) = true := by simp; omega
          have hdk : (k : Int) - (TT : Int) = (d : Int) := by omega
          have hd63 : d ≤ 1000000 := by have := HNS.out.holding; omega
          have tB : decide ((d : Int) < (q.words.length : Int)) = true := by simp; omega
          have j1 : (0 : Int) ≤ (d : Int) := by omega
          have j2 : (d : Int) < (q.words.length : Int) := by omega
          subst hz
          clear hget gz hin hd
          subst ex1 ey1 ez1
          go_wp2_with fail
          go_round
          case rel => exact ⟨k + 1, by omega, by go_num⟩
          case measure => simp [intOf]; omega
        · rw [if_neg hin] at hget
          have hz : y = x := Option.some.inj hget
          subst hz
          clear hget
          by_cases hA : TT ≤ k
          · have tA : decide ((TT : Int) ≤ (k : Int)) = true := by simp; omega
            obtain ⟨d, hd⟩ : ∃ d, k = TT + d := ⟨k - TT, by omega⟩
            have hdk : (k : Int) - (TT : Int) = (d : Int) := by omega
            have hd63 : d ≤ 1000000 := by have := HNS.out.holding; omega
            have tB : decide ((d : Int) < (q.words.length : Int)) = false := by simp; omega
            have tBn : decide (d < q.words.length) = false := by simp; omega
            have tBk : ¬ d < q.words.length := by omega
            clear hin hd
            subst ex1 ey1
            go_wp2_with fail
            go_round
            case rel => exact ⟨k + 1, by omega, by go_num⟩
            case measure => simp [intOf]; omega
          · have tA : decide ((TT : Int) ≤ (k : Int)) = false := by simp; omega
            clear hin
            subst ex1 ey1
            go_wp2_with fail
            go_round
            case rel => exact ⟨k + 1, by omega, by go_num⟩
            case measure => simp [intOf]; omega
      · obtain rfl : k = n.holding.length := by omega
        have tk : decide ((n.holding.length : Int) < (n.holding.length : Int)) = false := by simp
        go_wp2_with fail
        go_loop [166] (fun i => ∃ k : Nat, k ≤ n.coils.length ∧ i = .int .i64 k) (fun i => n.coils.length - (intOf i).toNat)
        case atStart => exact ⟨0, Nat.zero_le _, rfl⟩
        case round =>
          obtain ⟨k, hk, rfl⟩ := hrel
          by_cases hlt : k < n.coils.length
          · have hmlen : m.coils.length = n.coils.length := HWR.out.lc.symm
            obtain ⟨bx, ox, x, ex1, _, gx, cx⟩ := HM7.out.coils.at_ (k := k) (by rw [hmlen]; exact hlt)
            obtain ⟨by_, oy, y, ey1, _, gy, cy⟩ := HN7.out.coils.at_ (k := k) hlt
            have hget := HWR.out.coil k
            rw [HT0.out, gx, gy] at hget
            have i1 : (0 : Int) ≤ (k : Int) := by omega
            have i2 : (k : Int) < (m.coils.length : Int) := by rw [hmlen]; omega
            have i3 : (k : Int) < (n.coils.length : Int) := by omega
            have tk : decide ((k : Int) < (n.coils.length : Int)) = true := by simp; omega
            clear hmlen gx gy
            by_cases hin : TT ≤ k ∧ k - TT < q.bits.length
            · rw [if_pos hin] at hget
              obtain ⟨d, hd⟩ : ∃ d, k = TT + d := ⟨k - TT, by omega⟩
              obtain ⟨bz, oz, z, ez1, _, gz, cz⟩ := HQ7.out.bits.at_ (k := d) (by omega)
              have hz : y = z := by
                rw [show k - TT = d by omega, gz] at hget
                exact Option.some.inj hget
              have tA : decide ((TT : Int) ≤ (k : Int)) = true := by simp; omega
              have hdk : (k : Int) - (TT : Int) = (d : Int) := by omega
              have hd63 : d ≤ 1000000 := by have := HNS.out.coils; omega
              have tB : decide ((d : Int) < (q.bits.length : Int)) = true := by simp; omega
              have j1 : (0 : Int) ≤ (d : Int) := by omega
              have j2 : (d : Int) < (q.bits.length : Int) := by omega
              subst hz
              clear hget gz hin hd
              subst ex1 ey1 ez1
              go_wp2_with fail
              go_round
              case rel => exact ⟨k + 1, by omega, by go_num⟩
              case measure => simp [intOf]; omega
            · rw [if_neg hin] at hget
              have hz : y = x := Option.some.inj hget
              subst hz
              clear hget
              by_cases hA : TT ≤ k
              · have tA : decide ((TT : Int) ≤ (k : Int)) = true := by simp; omega
                obtain ⟨d, hd⟩ : ∃ d, k = TT + d := ⟨k - TT, by omega⟩
                have hdk : (k : Int) - (TT : Int) = (d : Int) := by omega
                have hd63 : d ≤ 1000000 := by have := HNS.out.coils; omega
                have tB : decide ((d : Int) < (q.bits.length : Int)) = false := by simp; omega
                have tBn : decide (d < q.bits.length) = false := by simp; omega
                have tBk : ¬ d < q.bits.length := by omega
                clear hin hd
                subst ex1 ey1
                go_wp2_with fail
                go_round
                case rel => exact ⟨k + 1, by omega, by go_num⟩
                case measure => simp [intOf]; omega
              · have tA : decide ((TT : Int) ≤ (k : Int)) = false := by simp; omega
                clear hin
                subst ex1 ey1
                go_wp2_with fail
                go_round
                case rel => exact ⟨k + 1, by omega, by go_num⟩
                case measure => simp [intOf]; omega
          · obtain rfl : k = n.coils.length := by omega
            have tk : decide ((n.coils.length : Int) < (n.coils.length : Int)) = false := by simp
            have F1 := Lib.hid HWR.out.inb
            have F2 := Lib.hid HWR.out.inw
            rw [HT0.out] at F1 F2
            have hq1 : q.bits.length ≤ 2100 := HL.out.2
            have hq2 : q.words.length ≤ 200 := HL.out.1
            go_wp2_with fail
            all_goals first
              | (exfalso; have := F1.out; have := F2.out; omega)
              | skip
            all_goals
              refine (HAW.out _).mono ?_
              rintro e w8 ⟨rfl, hb⟩
              have K8 := Lib.hid (K7.out.next hb)
              go_wp2_with fail
              go_ret
              exact ⟨rfl, K8.out.sx.below⟩
end Go.Proofs.Ytamdpinfbadflaa.ModW
