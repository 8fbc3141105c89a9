/- What reads: the walk. -/
import Derived.Test.YtamdpinfbadflaaModLawServes
import Derived.Test.YtamdpinfbadflaaModReadsP
import Derived.Test.YtamdpinfbadflaaStep
import Derived.Deep.DeepCutAuto
open Go.RowKit
namespace Go.Proofs.Ytamdpinfbadflaa.ModW
open AskM ReplyM ModM Mem AskW ReplyW

theorem run_append_any {P : Program} {w : World} {α : Type} {f : α → Value} (hf : ∀ x, (f x).oneCell' = true) (base : Nat) (t ty e : TypeId) (i : TypeInfo) (z : Value) (bytes : Nat) (ht : P.underlying t = some (.slice e)) (hi : P.info? e = some i) (hz : i.zero = some z)
    (hsize : i.size = 1) (hby : i.bytes = bytes) (hzs : z.cells.size = 1) (v : Value) (n : Nat) (xs : List Value) (hown : w.ownsRow base e 1 v n xs) (A : Option Addr) (m c : Nat) {B : Nat} {l : List α} (hS : Sl f w B A m c l)
    (h63 : n + m ≤ maxLen) (hbytes : (n + m) * bytes ≤ 140737488355328) (hbase : base ≤ w.heap.size) :
    ∃ v' w', (Builtin.append_ #[t, t] ty #[v, .slice A m c]).run P w = .ok v' w' ∧ w'.ownsRow base e 1 v' (n + m) (xs ++ l.map f) ∧ Grew w v w' v' := by
  cases A with
  | none =>
    obtain ⟨rfl, rfl, rfl⟩ := sl_nil hS
    exact ⟨v, w, run_append_owned_none (P := P) (w := w) base t ty e i 1 ht hi v n xs hown, by simpa using hown, Grew.refl _ _⟩
  | some ad =>
    refine run_append_grew (P := P) (w := w) base t ty e i z bytes ht hi hz hsize hby hzs v n xs hown ad m c (l.map f) (by simpa using hS.len) (fun j u hu => ?_) (fun u hu => ?_) h63 hbytes hbase
    · rw [List.getElem?_map] at hu
      obtain ⟨y, hy, rfl⟩ := Option.map_eq_some_iff.1 hu
      have hj : j < l.length := (List.getElem?_eq_some_iff.1 hy).1
      obtain ⟨b, off, e1, _, hc⟩ := hS.cells (by have := hS.len; omega)
      injection e1 with e1
      subst e1
      rw [← hc j y hy]
      by_cases h0 : j = 0 <;> simp [Addr.add, h0]
    · obtain ⟨y, _, rfl⟩ := List.mem_map.1 hu
      exact hf y
theorem step_append_any {P : Program} {w : World} {ops : Array Oper} {o : Oper} {a : Act} {K : Act → World → Prop} {Q : Exit → Act → World → Prop} {E : Prop} {α : Type} {f : α → Value} (hf : ∀ x, (f x).oneCell' = true) (hgd : o.guard = none) (s x : Operand) (t : TypeId)
    (ho : o.op = .call { callee := .builtin .append, args := #[s, x], argTypes := #[t, t] })
    (base : Nat) (e : TypeId) (i : TypeInfo) (z : Value) (bytes : Nat) (ht : P.underlying t = some (.slice e)) (hi : P.info? e = some i) (hz : i.zero = some z) (hsize : i.size = 1) (hby : i.bytes = bytes) (hzs : z.cells.size = 1)
    (v : Value) (n : Nat) (xs : List Value) (hs : a.eval s = v) (hown : w.ownsRow base e 1 v n xs) (A : Option Addr) (m c : Nat) (hx : a.eval x = .slice A m c) {B : Nat} {l : List α} (hS : Sl f w B A m c l)
    (h63 : n + m ≤ maxLen) (hbytes : (n + m) * bytes ≤ 140737488355328) (hbase : base ≤ w.heap.size)
    (h : ∀ v' w', w'.ownsRow base e 1 v' (n + m) (xs ++ l.map f) → Grew w v w' v' → K (a.put o.dst v') w') :
    if Region.wanted o (yielded ops a.tmps) = true then Oper.wp P o a w K Q else E := by
  rw [if_pos (by simp [Region.wanted, hgd])]
  obtain ⟨v', w', hr, h2, h3⟩ := run_append_any (P := P) (w := w) hf base t o.type e i z bytes ht hi hz hsize hby hzs v n xs hown A m c hS h63 hbytes hbase
  unfold Oper.wp execOp
  simp only [ho, resolve, invoke, builtin, Sem.run_bind, Sem.run_pure, Result.andThen_ok, List.map_toArray, List.map_cons, List.map_nil, hs, hx, hr]
  exact h v' w' h2 h3
theorem read_lens {f : UInt8} (hf : f.toNat = 1 ∨ f.toNat = 2 ∨ f.toNat = 3 ∨ f.toNat = 4) {s : Sp} {m : Me} {at_ many : UInt16} (h0 : (doN s m ⟨f, at_, many, 0, [], []⟩).2.ex = 0) : (doN s m ⟨f, at_, many, 0, [], []⟩).2.words.length ≤ 65535 ∧ (doN s m ⟨f, at_, many, 0, [], []⟩).2.bits.length ≤ 65600 := by
  obtain ⟨hc, hr⟩ := do_zero h0
  have hM := many.toNat_lt
  rw [do_read hf hc hr]
  constructor
  · show (readW m (wrN f.toNat) at_.toNat many.toNat).length ≤ _
    cases wrN f.toNat with
    | none => simp [readW]
    | some j => simp [readW]; omega
  · show (readB m (brN f.toNat) at_.toNat many.toNat).length ≤ _
    cases brN f.toNat with
    | none => simp [readB]
    | some j => simp [readB, padN]; omega
theorem words_true {a b : Option Addr} {n c k d : Nat} {l m : List UInt16} {B B2 : Nat} {w : World} (hl : Sl b16 w B a n c l) (hm : Sl b16 w B2 b k d m) (h : l = m) :
    Calls Try.prog 17 #[.slice a n c, .slice b k d] w (Says (.bool true) w) := by
  have h1 := LowWords_any a b n c k d l m B B2 w hl hm
  rw [decide_eq_true h] at h1
  exact h1.mono fun _ _ h => SaysD.says h
theorem bits_true {a b : Option Addr} {n c k d : Nat} {l m : List Bool} {B B2 : Nat} {w : World} (hl : Sl Value.bool w B a n c l) (hm : Sl Value.bool w B2 b k d m) (h : l = m) :
    Calls Try.prog 16 #[.slice a n c, .slice b k d] w (Says (.bool true) w) := by
  have h1 := LowBits_any a b n c k d l m B B2 w hl hm
  rw [decide_eq_true h] at h1
  exact h1.mono fun _ _ h => SaysD.says h
theorem one16 (x : UInt16) : (b16 x).oneCell' = true := rfl
theorem oneB (x : Bool) : (Value.bool x).oneCell' = true := rfl
theorem infoBq : (Try.prog.info? 4).map (fun i => (i.zero, i.size, i.bytes)) = some (some (.bool false), 1, 1) := by kernel_rfl
set_option maxRecDepth 100000 in
set_option maxHeartbeats 4000000 in
theorem ModelReads_walk (s : Sp) (p : Pl) (m : Me) (p2 : Pl) (f at_ many : Nat) (w : World) (hS : SpAt w w.heap.size s p) (hM : MeAt w w.heap.size m p2) (hf : f < 256) (hat : at_ < 65536) (hmany : many < 65536) :
    Calls Try.prog 4 #[spV s p, meV m p2, .int .u8 (f : Int), .int .u16 (at_ : Int), .int .u16 (many : Int)] w fun e w' => e = .returned (.bool true) ∧ Below w.heap.size w w' := by
  obtain ⟨G, rfl⟩ : ∃ A : UInt8, f = A.toNat := ⟨UInt8.ofNat f, by simp; omega⟩
  obtain ⟨A, rfl⟩ : ∃ A : UInt16, at_ = A.toNat := ⟨UInt16.ofNat at_, by simp; omega⟩
  obtain ⟨N, rfl⟩ : ∃ A : UInt16, many = A.toNat := ⟨UInt16.ofNat many, by simp; omega⟩
  obtain ⟨F, hF⟩ : ∃ F : UInt8, F.toNat = 1 + G.toNat % 4 := ⟨UInt8.ofNat (1 + G.toNat % 4), by simp; omega⟩
  have hFw : IntKind.u8.wrap (1 + (G.toNat : Int) % 4) = (F.toNat : Int) := by rw [hF]; simp [IntKind.wrap, IntKind.bits, IntKind.signed]; omega
  have HF := Lib.hid (show F.toNat = 1 ∨ F.toNat = 2 ∨ F.toNat = 3 ∨ F.toNat = 4 by omega)
  have HLI := Lib.hid (fun W (h : Below w.heap.size w W) => Light_any s p m p2 W (hS.on h) (hM.on h))
  have HAW := Lib.hid awake_any
  have HME := Lib.hid (fun W (h : Below w.heap.size w W) => hM.on h)
  have HDO := Lib.hid (fun (P : Pl) a2 k2 W (h : Below w.heap.size w W) (hm : MeAt W W.heap.size m P) (hsm : MeSmall m) => Do_at s p m P ⟨F, a2, k2, 0, [], []⟩ none 0 none 0 W (hS.on h) hm hsm ⟨Sl.none_, Sl.none_⟩ (by simp) (by simp))
  have hkeep := reads_keep HF.out s m A N
  obtain ⟨⟨n, r⟩, hnr⟩ : ∃ x, doN s m ⟨F, A, N, 0, [], []⟩ = x := ⟨_, rfl⟩
  have hn : n = m := by rw [hnr] at hkeep; exact hkeep
  subst hn
  obtain ⟨ca, cc, ia, ic, ha, hc, wa, wc⟩ := p
  obtain ⟨da, dc, ja, jc, ka, kc, xa, xc⟩ := p2
  have hsx := (SX.new w (#[.slice ca s.coils.length cc, .slice ia s.inputs.length ic, .slice ha s.holding.length hc, .slice wa s.words.length wc]) (#[.slice da n.coils.length dc, .slice ja n.inputs.length jc, .slice ka n.holding.length kc, .slice xa n.words.length xc])).one (#[b8 F, b16 A, b16 N, .int .u16 0, .slice none 0 0, .slice none 0 0]) 31
  rw [show ((w.alloc (.cells #[.slice ca s.coils.length cc, .slice ia s.inputs.length ic, .slice ha s.holding.length hc, .slice wa s.words.length wc] 24)).alloc (.cells #[.slice da n.coils.length dc, .slice ja n.inputs.length jc, .slice ka n.holding.length kc, .slice xa n.words.length xc] 28)).heap.size = w.heap.size + 1 + 1 by simp] at hsx
  have HNR := Lib.hid hnr
  have HFF := Lib.hid hF
  clear hS hM hnr hF hkeep hf hat hmany
  go_enter Try.func4, Try.ntmps4
  go_wp2_with fail
  generalize ((w.alloc (.cells #[.slice ca s.coils.length cc, .slice ia s.inputs.length ic, .slice ha s.holding.length hc, .slice wa s.words.length wc] 24)).alloc (.cells #[.slice da n.coils.length dc, .slice ja n.inputs.length jc, .slice ka n.holding.length kc, .slice xa n.words.length xc] 28)).alloc (.cells #[b8 F, b16 A, b16 N, .int .u16 0, .slice none 0 0, .slice none 0 0] 31) = W0 at *
  have K0 := Lib.hid hsx
  clear hsx
  refine (HLI.out W0 K0.out.below).mono ?_
  rintro e w1 ⟨rr, rfl, hlight, hb⟩
  have HML := Lib.hid hlight
  have K1 := Lib.hid (K0.out.on hb)
  clear hb K0 HLI hlight
  cases rr
  case false =>
    go_wp2_with fail
    refine (HAW.out _).mono ?_
    rintro e w2 ⟨rfl, hb⟩
    have K2 := Lib.hid (K1.out.on hb)
    go_wp2_with fail
    go_ret
    exact ⟨rfl, K2.out.below⟩
  have HLT := Lib.hid (HML.out rfl)
  clear HML
  have s0 : w1.cell? ⟨w.heap.size, 0, none⟩ = some (.slice ca s.coils.length cc) := cell_of_row _ _ _ _ _ _ K1.out.s
  have s1 : w1.cell? ⟨w.heap.size, 1, none⟩ = some (.slice ia s.inputs.length ic) := cell_of_row _ _ _ _ _ _ K1.out.s
  have s2 : w1.cell? ⟨w.heap.size, 2, none⟩ = some (.slice ha s.holding.length hc) := cell_of_row _ _ _ _ _ _ K1.out.s
  have s3 : w1.cell? ⟨w.heap.size, 3, none⟩ = some (.slice wa s.words.length wc) := cell_of_row _ _ _ _ _ _ K1.out.s
  have g0 : w1.cell? ⟨w.heap.size + 1, 0, none⟩ = some (.slice da n.coils.length dc) := cell_of_row _ _ _ _ _ _ K1.out.m
  have g1 : w1.cell? ⟨w.heap.size + 1, 1, none⟩ = some (.slice ja n.inputs.length jc) := cell_of_row _ _ _ _ _ _ K1.out.m
  have g2 : w1.cell? ⟨w.heap.size + 1, 2, none⟩ = some (.slice ka n.holding.length kc) := cell_of_row _ _ _ _ _ _ K1.out.m
  have g3 : w1.cell? ⟨w.heap.size + 1, 3, none⟩ = some (.slice xa n.words.length xc) := cell_of_row _ _ _ _ _ _ K1.out.m
  have u0 : w1.cell? ⟨w.heap.size + 1 + 1, 0, none⟩ = some (b8 F) := cell_of_row _ _ _ _ _ _ (K1.out.at_ (c := #[b8 F, b16 A, b16 N, .int .u16 0, .slice none 0 0, .slice none 0 0]) (t := 31) (by simp))
  have u1 : w1.cell? ⟨w.heap.size + 1 + 1, 1, none⟩ = some (b16 A) := cell_of_row _ _ _ _ _ _ (K1.out.at_ (c := #[b8 F, b16 A, b16 N, .int .u16 0, .slice none 0 0, .slice none 0 0]) (t := 31) (by simp))
  have u2 : w1.cell? ⟨w.heap.size + 1 + 1, 2, none⟩ = some (b16 N) := cell_of_row _ _ _ _ _ _ (K1.out.at_ (c := #[b8 F, b16 A, b16 N, .int .u16 0, .slice none 0 0, .slice none 0 0]) (t := 31) (by simp))
  have u3 : w1.cell? ⟨w.heap.size + 1 + 1, 3, none⟩ = some (.int .u16 0) := cell_of_row _ _ _ _ _ _ (K1.out.at_ (c := #[b8 F, b16 A, b16 N, .int .u16 0, .slice none 0 0, .slice none 0 0]) (t := 31) (by simp))
  have u4 : w1.cell? ⟨w.heap.size + 1 + 1, 4, none⟩ = some (.slice none 0 0) := cell_of_row _ _ _ _ _ _ (K1.out.at_ (c := #[b8 F, b16 A, b16 N, .int .u16 0, .slice none 0 0, .slice none 0 0]) (t := 31) (by simp))
  have u5 : w1.cell? ⟨w.heap.size + 1 + 1, 5, none⟩ = some (.slice none 0 0) := cell_of_row _ _ _ _ _ _ (K1.out.at_ (c := #[b8 F, b16 A, b16 N, .int .u16 0, .slice none 0 0, .slice none 0 0]) (t := 31) (by simp))
  go_wp2_with fail
  refine (HDO.out ⟨da, dc, ja, jc, ka, kc, xa, xc⟩ A N w1 K1.out.below (HME.out w1 K1.out.below) HLT.out.small).mono ?_
  rw [HNR.out]
  rintro e w2 ⟨q1, a1, c1, b1, e1, rfl, hm1, hr1, hb⟩
  have K2 := Lib.hid ((K1.out.on hb).two (#[.slice q1.ca n.coils.length q1.cc, .slice q1.ia n.inputs.length q1.ic, .slice q1.ha n.holding.length q1.hc, .slice q1.wa n.words.length q1.wc]) (#[b8 r.fn, b8 r.ex, .slice b1 r.bits.length e1, .slice a1 r.words.length c1, b16 r.at_, b16 r.many]) 28 36)
  have hb3 := below_two w2 (.cells #[.slice q1.ca n.coils.length q1.cc, .slice q1.ia n.inputs.length q1.ic, .slice q1.ha n.holding.length q1.hc, .slice q1.wa n.words.length q1.wc] 28) (.cells #[b8 r.fn, b8 r.ex, .slice b1 r.bits.length e1, .slice a1 r.words.length c1, b16 r.at_, b16 r.many] 36)
  have HA2 := Lib.hid (And.intro (hm1.on hb3) (hr1.below hb3))
  clear hb K1 hm1 hr1 hb3 s0 s1 s2 s3 g0 g1 g2 g3 u0 u1 u2 u3 u4 u5
  have s0 : ((w2.alloc (.cells #[.slice q1.ca n.coils.length q1.cc, .slice q1.ia n.inputs.length q1.ic, .slice q1.ha n.holding.length q1.hc, .slice q1.wa n.words.length q1.wc] 28)).alloc (.cells #[b8 r.fn, b8 r.ex, .slice b1 r.bits.length e1, .slice a1 r.words.length c1, b16 r.at_, b16 r.many] 36)).cell? ⟨w.heap.size, 0, none⟩ = some (.slice ca s.coils.length cc) := cell_of_row _ _ _ _ _ _ K2.out.s
  have s1 : ((w2.alloc (.cells #[.slice q1.ca n.coils.length q1.cc, .slice q1.ia n.inputs.length q1.ic, .slice q1.ha n.holding.length q1.hc, .slice q1.wa n.words.length q1.wc] 28)).alloc (.cells #[b8 r.fn, b8 r.ex, .slice b1 r.bits.length e1, .slice a1 r.words.length c1, b16 r.at_, b16 r.many] 36)).cell? ⟨w.heap.size, 1, none⟩ = some (.slice ia s.inputs.length ic) := cell_of_row _ _ _ _ _ _ K2.out.s
  have s2 : ((w2.alloc (.cells #[.slice q1.ca n.coils.length q1.cc, .slice q1.ia n.inputs.length q1.ic, .slice q1.ha n.holding.length q1.hc, .slice q1.wa n.words.length q1.wc] 28)).alloc (.cells #[b8 r.fn, b8 r.ex, .slice b1 r.bits.length e1, .slice a1 r.words.length c1, b16 r.at_, b16 r.many] 36)).cell? ⟨w.heap.size, 2, none⟩ = some (.slice ha s.holding.length hc) := cell_of_row _ _ _ _ _ _ K2.out.s
  have s3 : ((w2.alloc (.cells #[.slice q1.ca n.coils.length q1.cc, .slice q1.ia n.inputs.length q1.ic, .slice q1.ha n.holding.length q1.hc, .slice q1.wa n.words.length q1.wc] 28)).alloc (.cells #[b8 r.fn, b8 r.ex, .slice b1 r.bits.length e1, .slice a1 r.words.length c1, b16 r.at_, b16 r.many] 36)).cell? ⟨w.heap.size, 3, none⟩ = some (.slice wa s.words.length wc) := cell_of_row _ _ _ _ _ _ K2.out.s
  have g0 : ((w2.alloc (.cells #[.slice q1.ca n.coils.length q1.cc, .slice q1.ia n.inputs.length q1.ic, .slice q1.ha n.holding.length q1.hc, .slice q1.wa n.words.length q1.wc] 28)).alloc (.cells #[b8 r.fn, b8 r.ex, .slice b1 r.bits.length e1, .slice a1 r.words.length c1, b16 r.at_, b16 r.many] 36)).cell? ⟨w.heap.size + 1, 0, none⟩ = some (.slice da n.coils.length dc) := cell_of_row _ _ _ _ _ _ K2.out.m
  have g1 : ((w2.alloc (.cells #[.slice q1.ca n.coils.length q1.cc, .slice q1.ia n.inputs.length q1.ic, .slice q1.ha n.holding.length q1.hc, .slice q1.wa n.words.length q1.wc] 28)).alloc (.cells #[b8 r.fn, b8 r.ex, .slice b1 r.bits.length e1, .slice a1 r.words.length c1, b16 r.at_, b16 r.many] 36)).cell? ⟨w.heap.size + 1, 1, none⟩ = some (.slice ja n.inputs.length jc) := cell_of_row _ _ _ _ _ _ K2.out.m
  have g2 : ((w2.alloc (.cells #[.slice q1.ca n.coils.length q1.cc, .slice q1.ia n.inputs.length q1.ic, .slice q1.ha n.holding.length q1.hc, .slice q1.wa n.words.length q1.wc] 28)).alloc (.cells #[b8 r.fn, b8 r.ex, .slice b1 r.bits.length e1, .slice a1 r.words.length c1, b16 r.at_, b16 r.many] 36)).cell? ⟨w.heap.size + 1, 2, none⟩ = some (.slice ka n.holding.length kc) := cell_of_row _ _ _ _ _ _ K2.out.m
  have g3 : ((w2.alloc (.cells #[.slice q1.ca n.coils.length q1.cc, .slice q1.ia n.inputs.length q1.ic, .slice q1.ha n.holding.length q1.hc, .slice q1.wa n.words.length q1.wc] 28)).alloc (.cells #[b8 r.fn, b8 r.ex, .slice b1 r.bits.length e1, .slice a1 r.words.length c1, b16 r.at_, b16 r.many] 36)).cell? ⟨w.heap.size + 1, 3, none⟩ = some (.slice xa n.words.length xc) := cell_of_row _ _ _ _ _ _ K2.out.m
  have u0 : ((w2.alloc (.cells #[.slice q1.ca n.coils.length q1.cc, .slice q1.ia n.inputs.length q1.ic, .slice q1.ha n.holding.length q1.hc, .slice q1.wa n.words.length q1.wc] 28)).alloc (.cells #[b8 r.fn, b8 r.ex, .slice b1 r.bits.length e1, .slice a1 r.words.length c1, b16 r.at_, b16 r.many] 36)).cell? ⟨w.heap.size + 1 + 1, 0, none⟩ = some (b8 F) := cell_of_row _ _ _ _ _ _ (K2.out.at_ (c := #[b8 F, b16 A, b16 N, .int .u16 0, .slice none 0 0, .slice none 0 0]) (t := 31) (by simp))
  have u1 : ((w2.alloc (.cells #[.slice q1.ca n.coils.length q1.cc, .slice q1.ia n.inputs.length q1.ic, .slice q1.ha n.holding.length q1.hc, .slice q1.wa n.words.length q1.wc] 28)).alloc (.cells #[b8 r.fn, b8 r.ex, .slice b1 r.bits.length e1, .slice a1 r.words.length c1, b16 r.at_, b16 r.many] 36)).cell? ⟨w.heap.size + 1 + 1, 1, none⟩ = some (b16 A) := cell_of_row _ _ _ _ _ _ (K2.out.at_ (c := #[b8 F, b16 A, b16 N, .int .u16 0, .slice none 0 0, .slice none 0 0]) (t := 31) (by simp))
  have u2 : ((w2.alloc (.cells #[.slice q1.ca n.coils.length q1.cc, .slice q1.ia n.inputs.length q1.ic, .slice q1.ha n.holding.length q1.hc, .slice q1.wa n.words.length q1.wc] 28)).alloc (.cells #[b8 r.fn, b8 r.ex, .slice b1 r.bits.length e1, .slice a1 r.words.length c1, b16 r.at_, b16 r.many] 36)).cell? ⟨w.heap.size + 1 + 1, 2, none⟩ = some (b16 N) := cell_of_row _ _ _ _ _ _ (K2.out.at_ (c := #[b8 F, b16 A, b16 N, .int .u16 0, .slice none 0 0, .slice none 0 0]) (t := 31) (by simp))
  have u3 : ((w2.alloc (.cells #[.slice q1.ca n.coils.length q1.cc, .slice q1.ia n.inputs.length q1.ic, .slice q1.ha n.holding.length q1.hc, .slice q1.wa n.words.length q1.wc] 28)).alloc (.cells #[b8 r.fn, b8 r.ex, .slice b1 r.bits.length e1, .slice a1 r.words.length c1, b16 r.at_, b16 r.many] 36)).cell? ⟨w.heap.size + 1 + 1, 3, none⟩ = some (.int .u16 0) := cell_of_row _ _ _ _ _ _ (K2.out.at_ (c := #[b8 F, b16 A, b16 N, .int .u16 0, .slice none 0 0, .slice none 0 0]) (t := 31) (by simp))
  have u4 : ((w2.alloc (.cells #[.slice q1.ca n.coils.length q1.cc, .slice q1.ia n.inputs.length q1.ic, .slice q1.ha n.holding.length q1.hc, .slice q1.wa n.words.length q1.wc] 28)).alloc (.cells #[b8 r.fn, b8 r.ex, .slice b1 r.bits.length e1, .slice a1 r.words.length c1, b16 r.at_, b16 r.many] 36)).cell? ⟨w.heap.size + 1 + 1, 4, none⟩ = some (.slice none 0 0) := cell_of_row _ _ _ _ _ _ (K2.out.at_ (c := #[b8 F, b16 A, b16 N, .int .u16 0, .slice none 0 0, .slice none 0 0]) (t := 31) (by simp))
  have u5 : ((w2.alloc (.cells #[.slice q1.ca n.coils.length q1.cc, .slice q1.ia n.inputs.length q1.ic, .slice q1.ha n.holding.length q1.hc, .slice q1.wa n.words.length q1.wc] 28)).alloc (.cells #[b8 r.fn, b8 r.ex, .slice b1 r.bits.length e1, .slice a1 r.words.length c1, b16 r.at_, b16 r.many] 36)).cell? ⟨w.heap.size + 1 + 1, 5, none⟩ = some (.slice none 0 0) := cell_of_row _ _ _ _ _ _ (K2.out.at_ (c := #[b8 F, b16 A, b16 N, .int .u16 0, .slice none 0 0, .slice none 0 0]) (t := 31) (by simp))
  have o0 : ((w2.alloc (.cells #[.slice q1.ca n.coils.length q1.cc, .slice q1.ia n.inputs.length q1.ic, .slice q1.ha n.holding.length q1.hc, .slice q1.wa n.words.length q1.wc] 28)).alloc (.cells #[b8 r.fn, b8 r.ex, .slice b1 r.bits.length e1, .slice a1 r.words.length c1, b16 r.at_, b16 r.many] 36)).cell? ⟨w2.heap.size, 0, none⟩ = some (.slice q1.ca n.coils.length q1.cc) := cell_of_row _ _ _ _ _ _ (K2.out.at_ (c := #[.slice q1.ca n.coils.length q1.cc, .slice q1.ia n.inputs.length q1.ic, .slice q1.ha n.holding.length q1.hc, .slice q1.wa n.words.length q1.wc]) (t := 28) (by simp))
  have o1 : ((w2.alloc (.cells #[.slice q1.ca n.coils.length q1.cc, .slice q1.ia n.inputs.length q1.ic, .slice q1.ha n.holding.length q1.hc, .slice q1.wa n.words.length q1.wc] 28)).alloc (.cells #[b8 r.fn, b8 r.ex, .slice b1 r.bits.length e1, .slice a1 r.words.length c1, b16 r.at_, b16 r.many] 36)).cell? ⟨w2.heap.size, 1, none⟩ = some (.slice q1.ia n.inputs.length q1.ic) := cell_of_row _ _ _ _ _ _ (K2.out.at_ (c := #[.slice q1.ca n.coils.length q1.cc, .slice q1.ia n.inputs.length q1.ic, .slice q1.ha n.holding.length q1.hc, .slice q1.wa n.words.length q1.wc]) (t := 28) (by simp))
  have o2 : ((w2.alloc (.cells #[.slice q1.ca n.coils.length q1.cc, .slice q1.ia n.inputs.length q1.ic, .slice q1.ha n.holding.length q1.hc, .slice q1.wa n.words.length q1.wc] 28)).alloc (.cells #[b8 r.fn, b8 r.ex, .slice b1 r.bits.length e1, .slice a1 r.words.length c1, b16 r.at_, b16 r.many] 36)).cell? ⟨w2.heap.size, 2, none⟩ = some (.slice q1.ha n.holding.length q1.hc) := cell_of_row _ _ _ _ _ _ (K2.out.at_ (c := #[.slice q1.ca n.coils.length q1.cc, .slice q1.ia n.inputs.length q1.ic, .slice q1.ha n.holding.length q1.hc, .slice q1.wa n.words.length q1.wc]) (t := 28) (by simp))
  have o3 : ((w2.alloc (.cells #[.slice q1.ca n.coils.length q1.cc, .slice q1.ia n.inputs.length q1.ic, .slice q1.ha n.holding.length q1.hc, .slice q1.wa n.words.length q1.wc] 28)).alloc (.cells #[b8 r.fn, b8 r.ex, .slice b1 r.bits.length e1, .slice a1 r.words.length c1, b16 r.at_, b16 r.many] 36)).cell? ⟨w2.heap.size, 3, none⟩ = some (.slice q1.wa n.words.length q1.wc) := cell_of_row _ _ _ _ _ _ (K2.out.at_ (c := #[.slice q1.ca n.coils.length q1.cc, .slice q1.ia n.inputs.length q1.ic, .slice q1.ha n.holding.length q1.hc, .slice q1.wa n.words.length q1.wc]) (t := 28) (by simp))
  go_wp2_with fail
  generalize ((w2.alloc (.cells #[.slice q1.ca n.coils.length q1.cc, .slice q1.ia n.inputs.length q1.ic, .slice q1.ha n.holding.length q1.hc, .slice q1.wa n.words.length q1.wc] 28)).alloc (.cells #[b8 r.fn, b8 r.ex, .slice b1 r.bits.length e1, .slice a1 r.words.length c1, b16 r.at_, b16 r.many] 36)) = Z2 at *
  refine (HDO.out q1 A N Z2 K2.out.below HA2.out.1 HLT.out.small).mono ?_
  rw [HNR.out]
  rintro e w3 ⟨q2, a2, c2, b2, e2, rfl, hm2, hr2, hb⟩
  have K3 := Lib.hid ((K2.out.on hb).two (#[.slice q2.ca n.coils.length q2.cc, .slice q2.ia n.inputs.length q2.ic, .slice q2.ha n.holding.length q2.hc, .slice q2.wa n.words.length q2.wc]) (#[b8 r.fn, b8 r.ex, .slice b2 r.bits.length e2, .slice a2 r.words.length c2, b16 r.at_, b16 r.many]) 28 36)
  have hb3 := below_two w3 (.cells #[.slice q2.ca n.coils.length q2.cc, .slice q2.ia n.inputs.length q2.ic, .slice q2.ha n.holding.length q2.hc, .slice q2.wa n.words.length q2.wc] 28) (.cells #[b8 r.fn, b8 r.ex, .slice b2 r.bits.length e2, .slice a2 r.words.length c2, b16 r.at_, b16 r.many] 36)
  have HA3 := Lib.hid (And.intro ((HA2.out.1.on hb).on hb3) ((HA2.out.2.below hb).below hb3))
  have HB3 := Lib.hid (And.intro (hm2.on hb3) (hr2.below hb3))
  clear hb K2 HA2 hm2 hr2 hb3 s0 s1 s2 s3 g0 g1 g2 g3 u0 u1 u2 u3 u4 u5 o0 o1 o2 o3
  have HMM := Lib.hid (HME.out ((w3.alloc (.cells #[.slice q2.ca n.coils.length q2.cc, .slice q2.ia n.inputs.length q2.ic, .slice q2.ha n.holding.length q2.hc, .slice q2.wa n.words.length q2.wc] 28)).alloc (.cells #[b8 r.fn, b8 r.ex, .slice b2 r.bits.length e2, .slice a2 r.words.length c2, b16 r.at_, b16 r.many] 36)) K3.out.below)
  have HS1 := Lib.hid (by
    have h := same_any n n q1 ⟨da, dc, ja, jc, ka, kc, xa, xc⟩ ((w3.alloc (.cells #[.slice q2.ca n.coils.length q2.cc, .slice q2.ia n.inputs.length q2.ic, .slice q2.ha n.holding.length q2.hc, .slice q2.wa n.words.length q2.wc] 28)).alloc (.cells #[b8 r.fn, b8 r.ex, .slice b2 r.bits.length e2, .slice a2 r.words.length c2, b16 r.at_, b16 r.many] 36)) HA3.out.1 HMM.out
    rw [decide_eq_true rfl] at h
    exact h)
  have HS2 := Lib.hid (fun W (hW : Below ((w3.alloc (.cells #[.slice q2.ca n.coils.length q2.cc, .slice q2.ia n.inputs.length q2.ic, .slice q2.ha n.holding.length q2.hc, .slice q2.wa n.words.length q2.wc] 28)).alloc (.cells #[b8 r.fn, b8 r.ex, .slice b2 r.bits.length e2, .slice a2 r.words.length c2, b16 r.at_, b16 r.many] 36)).heap.size ((w3.alloc (.cells #[.slice q2.ca n.coils.length q2.cc, .slice q2.ia n.inputs.length q2.ic, .slice q2.ha n.holding.length q2.hc, .slice q2.wa n.words.length q2.wc] 28)).alloc (.cells #[b8 r.fn, b8 r.ex, .slice b2 r.bits.length e2, .slice a2 r.words.length c2, b16 r.at_, b16 r.many] 36)) W) => (by
    have h := same_any n n q2 ⟨da, dc, ja, jc, ka, kc, xa, xc⟩ W (HB3.out.1.on hW) (HMM.out.on hW)
    rw [decide_eq_true rfl] at h
    exact h : Calls Try.prog 13 #[meV n q2, meV n ⟨da, dc, ja, jc, ka, kc, xa, xc⟩] W (Says (.bool true) W)))
  have HRS := Lib.hid (fun W (hW : Below ((w3.alloc (.cells #[.slice q2.ca n.coils.length q2.cc, .slice q2.ia n.inputs.length q2.ic, .slice q2.ha n.holding.length q2.hc, .slice q2.wa n.words.length q2.wc] 28)).alloc (.cells #[b8 r.fn, b8 r.ex, .slice b2 r.bits.length e2, .slice a2 r.words.length c2, b16 r.at_, b16 r.many] 36)).heap.size ((w3.alloc (.cells #[.slice q2.ca n.coils.length q2.cc, .slice q2.ia n.inputs.length q2.ic, .slice q2.ha n.holding.length q2.hc, .slice q2.wa n.words.length q2.wc] 28)).alloc (.cells #[b8 r.fn, b8 r.ex, .slice b2 r.bits.length e2, .slice a2 r.words.length c2, b16 r.at_, b16 r.many] 36)) W) => (by
    have h := RSame_any r r a1 c1 b1 e1 a2 c2 b2 e2 W (HA3.out.2.below hW) (HB3.out.2.below hW)
    rw [decide_eq_true rfl] at h
    exact h : Calls Try.prog 18 #[repV r a1 c1 b1 e1, repV r a2 c2 b2 e2] W (Says (.bool true) W)))
  have s0 : ((w3.alloc (.cells #[.slice q2.ca n.coils.length q2.cc, .slice q2.ia n.inputs.length q2.ic, .slice q2.ha n.holding.length q2.hc, .slice q2.wa n.words.length q2.wc] 28)).alloc (.cells #[b8 r.fn, b8 r.ex, .slice b2 r.bits.length e2, .slice a2 r.words.length c2, b16 r.at_, b16 r.many] 36)).cell? ⟨w.heap.size, 0, none⟩ = some (.slice ca s.coils.length cc) := cell_of_row _ _ _ _ _ _ K3.out.s
  have s1 : ((w3.alloc (.cells #[.slice q2.ca n.coils.length q2.cc, .slice q2.ia n.inputs.length q2.ic, .slice q2.ha n.holding.length q2.hc, .slice q2.wa n.words.length q2.wc] 28)).alloc (.cells #[b8 r.fn, b8 r.ex, .slice b2 r.bits.length e2, .slice a2 r.words.length c2, b16 r.at_, b16 r.many] 36)).cell? ⟨w.heap.size, 1, none⟩ = some (.slice ia s.inputs.length ic) := cell_of_row _ _ _ _ _ _ K3.out.s
  have s2 : ((w3.alloc (.cells #[.slice q2.ca n.coils.length q2.cc, .slice q2.ia n.inputs.length q2.ic, .slice q2.ha n.holding.length q2.hc, .slice q2.wa n.words.length q2.wc] 28)).alloc (.cells #[b8 r.fn, b8 r.ex, .slice b2 r.bits.length e2, .slice a2 r.words.length c2, b16 r.at_, b16 r.many] 36)).cell? ⟨w.heap.size, 2, none⟩ = some (.slice ha s.holding.length hc) := cell_of_row _ _ _ _ _ _ K3.out.s
  have s3 : ((w3.alloc (.cells #[.slice q2.ca n.coils.length q2.cc, .slice q2.ia n.inputs.length q2.ic, .slice q2.ha n.holding.length q2.hc, .slice q2.wa n.words.length q2.wc] 28)).alloc (.cells #[b8 r.fn, b8 r.ex, .slice b2 r.bits.length e2, .slice a2 r.words.length c2, b16 r.at_, b16 r.many] 36)).cell? ⟨w.heap.size, 3, none⟩ = some (.slice wa s.words.length wc) := cell_of_row _ _ _ _ _ _ K3.out.s
  have g0 : ((w3.alloc (.cells #[.slice q2.ca n.coils.length q2.cc, .slice q2.ia n.inputs.length q2.ic, .slice q2.ha n.holding.length q2.hc, .slice q2.wa n.words.length q2.wc] 28)).alloc (.cells #[b8 r.fn, b8 r.ex, .slice b2 r.bits.length e2, .slice a2 r.words.length c2, b16 r.at_, b16 r.many] 36)).cell? ⟨w.heap.size + 1, 0, none⟩ = some (.slice da n.coils.length dc) := cell_of_row _ _ _ _ _ _ K3.out.m
  have g1 : ((w3.alloc (.cells #[.slice q2.ca n.coils.length q2.cc, .slice q2.ia n.inputs.length q2.ic, .slice q2.ha n.holding.length q2.hc, .slice q2.wa n.words.length q2.wc] 28)).alloc (.cells #[b8 r.fn, b8 r.ex, .slice b2 r.bits.length e2, .slice a2 r.words.length c2, b16 r.at_, b16 r.many] 36)).cell? ⟨w.heap.size + 1, 1, none⟩ = some (.slice ja n.inputs.length jc) := cell_of_row _ _ _ _ _ _ K3.out.m
  have g2 : ((w3.alloc (.cells #[.slice q2.ca n.coils.length q2.cc, .slice q2.ia n.inputs.length q2.ic, .slice q2.ha n.holding.length q2.hc, .slice q2.wa n.words.length q2.wc] 28)).alloc (.cells #[b8 r.fn, b8 r.ex, .slice b2 r.bits.length e2, .slice a2 r.words.length c2, b16 r.at_, b16 r.many] 36)).cell? ⟨w.heap.size + 1, 2, none⟩ = some (.slice ka n.holding.length kc) := cell_of_row _ _ _ _ _ _ K3.out.m
  have g3 : ((w3.alloc (.cells #[.slice q2.ca n.coils.length q2.cc, .slice q2.ia n.inputs.length q2.ic, .slice q2.ha n.holding.length q2.hc, .slice q2.wa n.words.length q2.wc] 28)).alloc (.cells #[b8 r.fn, b8 r.ex, .slice b2 r.bits.length e2, .slice a2 r.words.length c2, b16 r.at_, b16 r.many] 36)).cell? ⟨w.heap.size + 1, 3, none⟩ = some (.slice xa n.words.length xc) := cell_of_row _ _ _ _ _ _ K3.out.m
  have o0 : ((w3.alloc (.cells #[.slice q2.ca n.coils.length q2.cc, .slice q2.ia n.inputs.length q2.ic, .slice q2.ha n.holding.length q2.hc, .slice q2.wa n.words.length q2.wc] 28)).alloc (.cells #[b8 r.fn, b8 r.ex, .slice b2 r.bits.length e2, .slice a2 r.words.length c2, b16 r.at_, b16 r.many] 36)).cell? ⟨w2.heap.size, 0, none⟩ = some (.slice q1.ca n.coils.length q1.cc) := cell_of_row _ _ _ _ _ _ (K3.out.at_ (c := #[.slice q1.ca n.coils.length q1.cc, .slice q1.ia n.inputs.length q1.ic, .slice q1.ha n.holding.length q1.hc, .slice q1.wa n.words.length q1.wc]) (t := 28) (by simp))
  have o1 : ((w3.alloc (.cells #[.slice q2.ca n.coils.length q2.cc, .slice q2.ia n.inputs.length q2.ic, .slice q2.ha n.holding.length q2.hc, .slice q2.wa n.words.length q2.wc] 28)).alloc (.cells #[b8 r.fn, b8 r.ex, .slice b2 r.bits.length e2, .slice a2 r.words.length c2, b16 r.at_, b16 r.many] 36)).cell? ⟨w2.heap.size, 1, none⟩ = some (.slice q1.ia n.inputs.length q1.ic) := cell_of_row _ _ _ _ _ _ (K3.out.at_ (c := #[.slice q1.ca n.coils.length q1.cc, .slice q1.ia n.inputs.length q1.ic, .slice q1.ha n.holding.length q1.hc, .slice q1.wa n.words.length q1.wc]) (t := 28) (by simp))
  have o2 : ((w3.alloc (.cells #[.slice q2.ca n.coils.length q2.cc, .slice q2.ia n.inputs.length q2.ic, .slice q2.ha n.holding.length q2.hc, .slice q2.wa n.words.length q2.wc] 28)).alloc (.cells #[b8 r.fn, b8 r.ex, .slice b2 r.bits.length e2, .slice a2 r.words.length c2, b16 r.at_, b16 r.many] 36)).cell? ⟨w2.heap.size, 2, none⟩ = some (.slice q1.ha n.holding.length q1.hc) := cell_of_row _ _ _ _ _ _ (K3.out.at_ (c := #[.slice q1.ca n.coils.length q1.cc, .slice q1.ia n.inputs.length q1.ic, .slice q1.ha n.holding.length q1.hc, .slice q1.wa n.words.length q1.wc]) (t := 28) (by simp))
  have o3 : ((w3.alloc (.cells #[.slice q2.ca n.coils.length q2.cc, .slice q2.ia n.inputs.length q2.ic, .slice q2.ha n.holding.length q2.hc, .slice q2.wa n.words.length q2.wc] 28)).alloc (.cells #[b8 r.fn, b8 r.ex, .slice b2 r.bits.length e2, .slice a2 r.words.length c2, b16 r.at_, b16 r.many] 36)).cell? ⟨w2.heap.size, 3, none⟩ = some (.slice q1.wa n.words.length q1.wc) := cell_of_row _ _ _ _ _ _ (K3.out.at_ (c := #[.slice q1.ca n.coils.length q1.cc, .slice q1.ia n.inputs.length q1.ic, .slice q1.ha n.holding.length q1.hc, .slice q1.wa n.words.length q1.wc]) (t := 28) (by simp))
  go_wp2_with fail
  generalize ((w3.alloc (.cells #[.slice q2.ca n.coils.length q2.cc, .slice q2.ia n.inputs.length q2.ic, .slice q2.ha n.holding.length q2.hc, .slice q2.wa n.words.length q2.wc] 28)).alloc (.cells #[b8 r.fn, b8 r.ex, .slice b2 r.bits.length e2, .slice a2 r.words.length c2, b16 r.at_, b16 r.many] 36)) = Z3 at *
  clear s0 s1 s2 s3 g0 g1 g2 g3 o0 o1 o2 o3
  refine (HS1.out).mono ?_
  rintro e w4 ⟨rfl, hb⟩
  have K4 := Lib.hid (K3.out.on hb)
  have HR4 := Lib.hid (And.intro (HA3.out.2.below hb) (HB3.out.2.below hb))
  have HB4 := Lib.hid hb
  clear hb K3 HS1
  have g0 : w4.cell? ⟨w.heap.size + 1, 0, none⟩ = some (.slice da n.coils.length dc) := cell_of_row _ _ _ _ _ _ K4.out.m
  have g1 : w4.cell? ⟨w.heap.size + 1, 1, none⟩ = some (.slice ja n.inputs.length jc) := cell_of_row _ _ _ _ _ _ K4.out.m
  have g2 : w4.cell? ⟨w.heap.size + 1, 2, none⟩ = some (.slice ka n.holding.length kc) := cell_of_row _ _ _ _ _ _ K4.out.m
  have g3 : w4.cell? ⟨w.heap.size + 1, 3, none⟩ = some (.slice xa n.words.length xc) := cell_of_row _ _ _ _ _ _ K4.out.m
  have o0 : w4.cell? ⟨w3.heap.size, 0, none⟩ = some (.slice q2.ca n.coils.length q2.cc) := cell_of_row _ _ _ _ _ _ (K4.out.at_ (c := #[.slice q2.ca n.coils.length q2.cc, .slice q2.ia n.inputs.length q2.ic, .slice q2.ha n.holding.length q2.hc, .slice q2.wa n.words.length q2.wc]) (t := 28) (by simp))
  have o1 : w4.cell? ⟨w3.heap.size, 1, none⟩ = some (.slice q2.ia n.inputs.length q2.ic) := cell_of_row _ _ _ _ _ _ (K4.out.at_ (c := #[.slice q2.ca n.coils.length q2.cc, .slice q2.ia n.inputs.length q2.ic, .slice q2.ha n.holding.length q2.hc, .slice q2.wa n.words.length q2.wc]) (t := 28) (by simp))
  have o2 : w4.cell? ⟨w3.heap.size, 2, none⟩ = some (.slice q2.ha n.holding.length q2.hc) := cell_of_row _ _ _ _ _ _ (K4.out.at_ (c := #[.slice q2.ca n.coils.length q2.cc, .slice q2.ia n.inputs.length q2.ic, .slice q2.ha n.holding.length q2.hc, .slice q2.wa n.words.length q2.wc]) (t := 28) (by simp))
  have o3 : w4.cell? ⟨w3.heap.size, 3, none⟩ = some (.slice q2.wa n.words.length q2.wc) := cell_of_row _ _ _ _ _ _ (K4.out.at_ (c := #[.slice q2.ca n.coils.length q2.cc, .slice q2.ia n.inputs.length q2.ic, .slice q2.ha n.holding.length q2.hc, .slice q2.wa n.words.length q2.wc]) (t := 28) (by simp))
  go_wp2_with fail
  refine (HS2.out w4 HB4.out).mono ?_
  rintro e w5 ⟨rfl, hb⟩
  have K5 := Lib.hid (K4.out.on hb)
  have HB5 := Lib.hid (HB4.out.trans (hb.mono HB4.out.size))
  clear hb K4 HS2 HB4 g0 g1 g2 g3 o0 o1 o2 o3 HR4
  have x0 : w5.cell? ⟨w2.heap.size + 1, 0, none⟩ = some (b8 r.fn) := cell_of_row _ _ _ _ _ _ (K5.out.at_ (c := #[b8 r.fn, b8 r.ex, .slice b1 r.bits.length e1, .slice a1 r.words.length c1, b16 r.at_, b16 r.many]) (t := 36) (by simp))
  have x1 : w5.cell? ⟨w2.heap.size + 1, 1, none⟩ = some (b8 r.ex) := cell_of_row _ _ _ _ _ _ (K5.out.at_ (c := #[b8 r.fn, b8 r.ex, .slice b1 r.bits.length e1, .slice a1 r.words.length c1, b16 r.at_, b16 r.many]) (t := 36) (by simp))
  have x2 : w5.cell? ⟨w2.heap.size + 1, 2, none⟩ = some (.slice b1 r.bits.length e1) := cell_of_row _ _ _ _ _ _ (K5.out.at_ (c := #[b8 r.fn, b8 r.ex, .slice b1 r.bits.length e1, .slice a1 r.words.length c1, b16 r.at_, b16 r.many]) (t := 36) (by simp))
  have x3 : w5.cell? ⟨w2.heap.size + 1, 3, none⟩ = some (.slice a1 r.words.length c1) := cell_of_row _ _ _ _ _ _ (K5.out.at_ (c := #[b8 r.fn, b8 r.ex, .slice b1 r.bits.length e1, .slice a1 r.words.length c1, b16 r.at_, b16 r.many]) (t := 36) (by simp))
  have x4 : w5.cell? ⟨w2.heap.size + 1, 4, none⟩ = some (b16 r.at_) := cell_of_row _ _ _ _ _ _ (K5.out.at_ (c := #[b8 r.fn, b8 r.ex, .slice b1 r.bits.length e1, .slice a1 r.words.length c1, b16 r.at_, b16 r.many]) (t := 36) (by simp))
  have x5 : w5.cell? ⟨w2.heap.size + 1, 5, none⟩ = some (b16 r.many) := cell_of_row _ _ _ _ _ _ (K5.out.at_ (c := #[b8 r.fn, b8 r.ex, .slice b1 r.bits.length e1, .slice a1 r.words.length c1, b16 r.at_, b16 r.many]) (t := 36) (by simp))
  have y0 : w5.cell? ⟨w3.heap.size + 1, 0, none⟩ = some (b8 r.fn) := cell_of_row _ _ _ _ _ _ (K5.out.at_ (c := #[b8 r.fn, b8 r.ex, .slice b2 r.bits.length e2, .slice a2 r.words.length c2, b16 r.at_, b16 r.many]) (t := 36) (by simp))
  have y1 : w5.cell? ⟨w3.heap.size + 1, 1, none⟩ = some (b8 r.ex) := cell_of_row _ _ _ _ _ _ (K5.out.at_ (c := #[b8 r.fn, b8 r.ex, .slice b2 r.bits.length e2, .slice a2 r.words.length c2, b16 r.at_, b16 r.many]) (t := 36) (by simp))
  have y2 : w5.cell? ⟨w3.heap.size + 1, 2, none⟩ = some (.slice b2 r.bits.length e2) := cell_of_row _ _ _ _ _ _ (K5.out.at_ (c := #[b8 r.fn, b8 r.ex, .slice b2 r.bits.length e2, .slice a2 r.words.length c2, b16 r.at_, b16 r.many]) (t := 36) (by simp))
  have y3 : w5.cell? ⟨w3.heap.size + 1, 3, none⟩ = some (.slice a2 r.words.length c2) := cell_of_row _ _ _ _ _ _ (K5.out.at_ (c := #[b8 r.fn, b8 r.ex, .slice b2 r.bits.length e2, .slice a2 r.words.length c2, b16 r.at_, b16 r.many]) (t := 36) (by simp))
  have y4 : w5.cell? ⟨w3.heap.size + 1, 4, none⟩ = some (b16 r.at_) := cell_of_row _ _ _ _ _ _ (K5.out.at_ (c := #[b8 r.fn, b8 r.ex, .slice b2 r.bits.length e2, .slice a2 r.words.length c2, b16 r.at_, b16 r.many]) (t := 36) (by simp))
  have y5 : w5.cell? ⟨w3.heap.size + 1, 5, none⟩ = some (b16 r.many) := cell_of_row _ _ _ _ _ _ (K5.out.at_ (c := #[b8 r.fn, b8 r.ex, .slice b2 r.bits.length e2, .slice a2 r.words.length c2, b16 r.at_, b16 r.many]) (t := 36) (by simp))
  go_wp2_with fail
  refine (HRS.out w5 HB5.out).mono ?_
  rintro e w6 ⟨rfl, hb⟩
  have K6 := Lib.hid (K5.out.on hb)
  have HR6 := Lib.hid (HA3.out.2.below (HB5.out.trans (hb.mono HB5.out.size)))
  clear hb K5 HRS HB5 HA3 HB3 HMM x0 x1 x2 x3 x4 x5 y0 y1 y2 y3 y4 y5
  have x0 : w6.cell? ⟨w2.heap.size + 1, 0, none⟩ = some (b8 r.fn) := cell_of_row _ _ _ _ _ _ (K6.out.at_ (c := #[b8 r.fn, b8 r.ex, .slice b1 r.bits.length e1, .slice a1 r.words.length c1, b16 r.at_, b16 r.many]) (t := 36) (by simp))
  have x1 : w6.cell? ⟨w2.heap.size + 1, 1, none⟩ = some (b8 r.ex) := cell_of_row _ _ _ _ _ _ (K6.out.at_ (c := #[b8 r.fn, b8 r.ex, .slice b1 r.bits.length e1, .slice a1 r.words.length c1, b16 r.at_, b16 r.many]) (t := 36) (by simp))
  have x2 : w6.cell? ⟨w2.heap.size + 1, 2, none⟩ = some (.slice b1 r.bits.length e1) := cell_of_row _ _ _ _ _ _ (K6.out.at_ (c := #[b8 r.fn, b8 r.ex, .slice b1 r.bits.length e1, .slice a1 r.words.length c1, b16 r.at_, b16 r.many]) (t := 36) (by simp))
  have x3 : w6.cell? ⟨w2.heap.size + 1, 3, none⟩ = some (.slice a1 r.words.length c1) := cell_of_row _ _ _ _ _ _ (K6.out.at_ (c := #[b8 r.fn, b8 r.ex, .slice b1 r.bits.length e1, .slice a1 r.words.length c1, b16 r.at_, b16 r.many]) (t := 36) (by simp))
  have x4 : w6.cell? ⟨w2.heap.size + 1, 4, none⟩ = some (b16 r.at_) := cell_of_row _ _ _ _ _ _ (K6.out.at_ (c := #[b8 r.fn, b8 r.ex, .slice b1 r.bits.length e1, .slice a1 r.words.length c1, b16 r.at_, b16 r.many]) (t := 36) (by simp))
  have x5 : w6.cell? ⟨w2.heap.size + 1, 5, none⟩ = some (b16 r.many) := cell_of_row _ _ _ _ _ _ (K6.out.at_ (c := #[b8 r.fn, b8 r.ex, .slice b1 r.bits.length e1, .slice a1 r.words.length c1, b16 r.at_, b16 r.many]) (t := 36) (by simp))
  by_cases hx : r.ex = 0
  case neg =>
    have t1 : ((r.ex.toNat : Int) != 0) = true := by
      simp
      exact fun e => hx (UInt8.toNat_inj.1 (by simpa using e))
    go_wp2_with fail
    refine (HAW.out _).mono ?_
    rintro e w7 ⟨rfl, hb⟩
    have K7 := Lib.hid (K6.out.on hb)
    go_wp2_with fail
    go_ret
    exact ⟨rfl, K7.out.below⟩
  have t1 : ((r.ex.toNat : Int) != 0) = false := by rw [hx]; rfl
  by_cases hN : N.toNat < 2
  · have t2 : decide ((N.toNat : Int) < 2) = true := by simp; omega
    clear hN
    go_wp2_with fail
    refine (HAW.out _).mono ?_
    rintro e w7 ⟨rfl, hb⟩
    have K7 := Lib.hid (K6.out.on hb)
    go_wp2_with fail
    go_ret
    exact ⟨rfl, K7.out.below⟩
  have t2 : decide ((N.toNat : Int) < 2) = false := by simp; omega
  obtain ⟨k, hk⟩ : ∃ k : UInt16, k.toNat = N.toNat / 2 := ⟨UInt16.ofNat (N.toNat / 2), by have := N.toNat_lt; simp; omega⟩
  obtain ⟨k2, hk2⟩ : ∃ k : UInt16, k.toNat = N.toNat - N.toNat / 2 := ⟨UInt16.ofNat (N.toNat - N.toNat / 2), by have := N.toNat_lt; simp; omega⟩
  obtain ⟨A2, hA2⟩ : ∃ k : UInt16, k.toNat = (A.toNat + N.toNat / 2) % 65536 := ⟨UInt16.ofNat (A.toNat + N.toNat / 2), by simp⟩
  have HRF := Lib.hid (reads_facts (s := s) (m := n) HF.out (by rw [HNR.out]; exact hx) (by omega) hk hk2 hA2)
  rw [HNR.out] at HRF
  have HLN := Lib.hid (read_lens (s := s) (m := n) (at_ := A) (many := N) HF.out (by rw [HNR.out]; exact hx))
  rw [HNR.out] at HLN
  obtain ⟨⟨nx, rx⟩, hdx⟩ : ∃ x, doN s n ⟨F, A, k, 0, [], []⟩ = x := ⟨_, rfl⟩
  obtain ⟨⟨ny, ry⟩, hdy⟩ : ∃ x, doN s n ⟨F, A2, k2, 0, [], []⟩ = x := ⟨_, rfl⟩
  have hnx : n = nx := by have h := reads_keep HF.out s n A k; rw [hdx] at h; exact h.symm
  have hny : n = ny := by have h := reads_keep HF.out s n A2 k2; rw [hdy] at h; exact h.symm
  subst hnx
  subst hny
  rw [hdx, hdy] at HRF
  have HDX := Lib.hid hdx
  have HDY := Lib.hid hdy
  have hkw : IntKind.u16.wrap ((N.toNat : Int) / 2) = (k.toNat : Int) := by rw [hk]; have := N.toNat_lt; simp [IntKind.wrap, IntKind.bits, IntKind.signed]; omega
  have hkd : (N.toNat : Int) / 2 = (k.toNat : Int) := by rw [hk]; omega
  have hkt : (N.toNat : Int).tdiv 2 = (k.toNat : Int) := by rw [Int.tdiv_eq_ediv_of_nonneg (by omega)]; exact hkd
  have hkw2 : IntKind.u16.wrap (k.toNat : Int) = (k.toNat : Int) := by have := k.toNat_lt; simp [IntKind.wrap, IntKind.bits, IntKind.signed]; omega
  have haw : IntKind.u16.wrap ((A.toNat : Int) + (k.toNat : Int)) = (A2.toNat : Int) := by rw [hA2, hk]; simp [IntKind.wrap, IntKind.bits, IntKind.signed]
  have hnw : IntKind.u16.wrap ((N.toNat : Int) - (k.toNat : Int)) = (k2.toNat : Int) := by rw [hk2, hk]; have := N.toNat_lt; simp [IntKind.wrap, IntKind.bits, IntKind.signed]; omega
  have HKK := Lib.hid (And.intro hk (And.intro hk2 hA2))
  clear hk hk2 hA2 hN hx hdx hdy
  have u0 : w6.cell? ⟨w.heap.size + 1 + 1, 0, none⟩ = some (b8 F) := cell_of_row _ _ _ _ _ _ (K6.out.at_ (c := #[b8 F, b16 A, b16 N, .int .u16 0, .slice none 0 0, .slice none 0 0]) (t := 31) (by simp))
  have u1 : w6.cell? ⟨w.heap.size + 1 + 1, 1, none⟩ = some (b16 A) := cell_of_row _ _ _ _ _ _ (K6.out.at_ (c := #[b8 F, b16 A, b16 N, .int .u16 0, .slice none 0 0, .slice none 0 0]) (t := 31) (by simp))
  have u2 : w6.cell? ⟨w.heap.size + 1 + 1, 2, none⟩ = some (b16 N) := cell_of_row _ _ _ _ _ _ (K6.out.at_ (c := #[b8 F, b16 A, b16 N, .int .u16 0, .slice none 0 0, .slice none 0 0]) (t := 31) (by simp))
  have u3 : w6.cell? ⟨w.heap.size + 1 + 1, 3, none⟩ = some (.int .u16 0) := cell_of_row _ _ _ _ _ _ (K6.out.at_ (c := #[b8 F, b16 A, b16 N, .int .u16 0, .slice none 0 0, .slice none 0 0]) (t := 31) (by simp))
  have u4 : w6.cell? ⟨w.heap.size + 1 + 1, 4, none⟩ = some (.slice none 0 0) := cell_of_row _ _ _ _ _ _ (K6.out.at_ (c := #[b8 F, b16 A, b16 N, .int .u16 0, .slice none 0 0, .slice none 0 0]) (t := 31) (by simp))
  have u5 : w6.cell? ⟨w.heap.size + 1 + 1, 5, none⟩ = some (.slice none 0 0) := cell_of_row _ _ _ _ _ _ (K6.out.at_ (c := #[b8 F, b16 A, b16 N, .int .u16 0, .slice none 0 0, .slice none 0 0]) (t := 31) (by simp))
  have s0 : w6.cell? ⟨w.heap.size, 0, none⟩ = some (.slice ca s.coils.length cc) := cell_of_row _ _ _ _ _ _ K6.out.s
  have s1 : w6.cell? ⟨w.heap.size, 1, none⟩ = some (.slice ia s.inputs.length ic) := cell_of_row _ _ _ _ _ _ K6.out.s
  have s2 : w6.cell? ⟨w.heap.size, 2, none⟩ = some (.slice ha s.holding.length hc) := cell_of_row _ _ _ _ _ _ K6.out.s
  have s3 : w6.cell? ⟨w.heap.size, 3, none⟩ = some (.slice wa s.words.length wc) := cell_of_row _ _ _ _ _ _ K6.out.s
  have g0 : w6.cell? ⟨w.heap.size + 1, 0, none⟩ = some (.slice da n.coils.length dc) := cell_of_row _ _ _ _ _ _ K6.out.m
  have g1 : w6.cell? ⟨w.heap.size + 1, 1, none⟩ = some (.slice ja n.inputs.length jc) := cell_of_row _ _ _ _ _ _ K6.out.m
  have g2 : w6.cell? ⟨w.heap.size + 1, 2, none⟩ = some (.slice ka n.holding.length kc) := cell_of_row _ _ _ _ _ _ K6.out.m
  have g3 : w6.cell? ⟨w.heap.size + 1, 3, none⟩ = some (.slice xa n.words.length xc) := cell_of_row _ _ _ _ _ _ K6.out.m
  go_wp2_with fail
  clear s0 s1 s2 s3 g0 g1 g2 g3 u0 u1 u2 u3 u4 u5 x0 x1 x2 x3 x4 x5
  refine (HDO.out ⟨da, dc, ja, jc, ka, kc, xa, xc⟩ A k w6 K6.out.below (HME.out w6 K6.out.below) HLT.out.small).mono ?_
  rw [HDX.out]
  rintro e w7 ⟨qx, ax, cx, bx, ex, rfl, hm7, hr7, hb⟩
  have K7 := Lib.hid ((K6.out.on hb).two (#[.slice qx.ca n.coils.length qx.cc, .slice qx.ia n.inputs.length qx.ic, .slice qx.ha n.holding.length qx.hc, .slice qx.wa n.words.length qx.wc]) (#[b8 rx.fn, b8 rx.ex, .slice bx rx.bits.length ex, .slice ax rx.words.length cx, b16 rx.at_, b16 rx.many]) 28 36)
  have hb3 := below_two w7 (.cells #[.slice qx.ca n.coils.length qx.cc, .slice qx.ia n.inputs.length qx.ic, .slice qx.ha n.holding.length qx.hc, .slice qx.wa n.words.length qx.wc] 28) (.cells #[b8 rx.fn, b8 rx.ex, .slice bx rx.bits.length ex, .slice ax rx.words.length cx, b16 rx.at_, b16 rx.many] 36)
  have HR7 := Lib.hid (And.intro ((HR6.out.below hb).below hb3) (hr7.below hb3))
  clear hb K6 HR6 hm7 hr7 hb3
  go_upto_region 12 with fail
  generalize hZ : ((w7.alloc (.cells #[.slice qx.ca n.coils.length qx.cc, .slice qx.ia n.inputs.length qx.ic, .slice qx.ha n.holding.length qx.hc, .slice qx.wa n.words.length qx.wc] 28)).alloc (.cells #[b8 rx.fn, b8 rx.ex, .slice bx rx.bits.length ex, .slice ax rx.words.length cx, b16 rx.at_, b16 rx.many] 36)) = Z7 at *
  clear hZ
  have s0 : Z7.cell? ⟨w.heap.size, 0, none⟩ = some (.slice ca s.coils.length cc) := cell_of_row _ _ _ _ _ _ K7.out.s
  have s1 : Z7.cell? ⟨w.heap.size, 1, none⟩ = some (.slice ia s.inputs.length ic) := cell_of_row _ _ _ _ _ _ K7.out.s
  have s2 : Z7.cell? ⟨w.heap.size, 2, none⟩ = some (.slice ha s.holding.length hc) := cell_of_row _ _ _ _ _ _ K7.out.s
  have s3 : Z7.cell? ⟨w.heap.size, 3, none⟩ = some (.slice wa s.words.length wc) := cell_of_row _ _ _ _ _ _ K7.out.s
  have g0 : Z7.cell? ⟨w.heap.size + 1, 0, none⟩ = some (.slice da n.coils.length dc) := cell_of_row _ _ _ _ _ _ K7.out.m
  have g1 : Z7.cell? ⟨w.heap.size + 1, 1, none⟩ = some (.slice ja n.inputs.length jc) := cell_of_row _ _ _ _ _ _ K7.out.m
  have g2 : Z7.cell? ⟨w.heap.size + 1, 2, none⟩ = some (.slice ka n.holding.length kc) := cell_of_row _ _ _ _ _ _ K7.out.m
  have g3 : Z7.cell? ⟨w.heap.size + 1, 3, none⟩ = some (.slice xa n.words.length xc) := cell_of_row _ _ _ _ _ _ K7.out.m
  have u0 : Z7.cell? ⟨w.heap.size + 1 + 1, 0, none⟩ = some (b8 F) := cell_of_row _ _ _ _ _ _ (K7.out.at_ (c := #[b8 F, b16 A, b16 N, .int .u16 0, .slice none 0 0, .slice none 0 0]) (t := 31) (by simp))
  have u1 : Z7.cell? ⟨w.heap.size + 1 + 1, 1, none⟩ = some (b16 A) := cell_of_row _ _ _ _ _ _ (K7.out.at_ (c := #[b8 F, b16 A, b16 N, .int .u16 0, .slice none 0 0, .slice none 0 0]) (t := 31) (by simp))
  have u2 : Z7.cell? ⟨w.heap.size + 1 + 1, 2, none⟩ = some (b16 N) := cell_of_row _ _ _ _ _ _ (K7.out.at_ (c := #[b8 F, b16 A, b16 N, .int .u16 0, .slice none 0 0, .slice none 0 0]) (t := 31) (by simp))
  have u3 : Z7.cell? ⟨w.heap.size + 1 + 1, 3, none⟩ = some (.int .u16 0) := cell_of_row _ _ _ _ _ _ (K7.out.at_ (c := #[b8 F, b16 A, b16 N, .int .u16 0, .slice none 0 0, .slice none 0 0]) (t := 31) (by simp))
  have u4 : Z7.cell? ⟨w.heap.size + 1 + 1, 4, none⟩ = some (.slice none 0 0) := cell_of_row _ _ _ _ _ _ (K7.out.at_ (c := #[b8 F, b16 A, b16 N, .int .u16 0, .slice none 0 0, .slice none 0 0]) (t := 31) (by simp))
  have u5 : Z7.cell? ⟨w.heap.size + 1 + 1, 5, none⟩ = some (.slice none 0 0) := cell_of_row _ _ _ _ _ _ (K7.out.at_ (c := #[b8 F, b16 A, b16 N, .int .u16 0, .slice none 0 0, .slice none 0 0]) (t := 31) (by simp))
  go_wp2_with fail
  clear s0 s1 s2 s3 g0 g1 g2 g3 u0 u1 u2 u3 u4 u5
  refine (HDO.out ⟨da, dc, ja, jc, ka, kc, xa, xc⟩ A2 k2 Z7 K7.out.below (HME.out Z7 K7.out.below) HLT.out.small).mono ?_
  rw [HDY.out]
  rintro e w8 ⟨qy, ay, cy, by', ey, rfl, hm8, hr8, hb⟩
  have K8 := Lib.hid ((K7.out.on hb).two (#[.slice qy.ca n.coils.length qy.cc, .slice qy.ia n.inputs.length qy.ic, .slice qy.ha n.holding.length qy.hc, .slice qy.wa n.words.length qy.wc]) (#[b8 ry.fn, b8 ry.ex, .slice by' ry.bits.length ey, .slice ay ry.words.length cy, b16 ry.at_, b16 ry.many]) 28 36)
  have hb3 := below_two w8 (.cells #[.slice qy.ca n.coils.length qy.cc, .slice qy.ia n.inputs.length qy.ic, .slice qy.ha n.holding.length qy.hc, .slice qy.wa n.words.length qy.wc] 28) (.cells #[b8 ry.fn, b8 ry.ex, .slice by' ry.bits.length ey, .slice ay ry.words.length cy, b16 ry.at_, b16 ry.many] 36)
  have HR8 := Lib.hid (And.intro ((HR7.out.1.below hb).below hb3) (And.intro ((HR7.out.2.below hb).below hb3) (hr8.below hb3)))
  clear hb K7 HR7 hm8 hr8 hb3 HDO HDX HDY HME
  obtain ⟨hx0, hy0, hwo, hbi⟩ := HRF.out
  have HWO := Lib.hid hwo
  have HBI := Lib.hid hbi
  have t3 : ((rx.ex.toNat : Int) != 0) = false := by rw [hx0]; rfl
  have t4 : ((ry.ex.toNat : Int) != 0) = false := by rw [hy0]; rfl
  clear hx0 hy0 hwo hbi
  go_upto_region 13 with fail
  generalize hZ : ((w8.alloc (.cells #[.slice qy.ca n.coils.length qy.cc, .slice qy.ia n.inputs.length qy.ic, .slice qy.ha n.holding.length qy.hc, .slice qy.wa n.words.length qy.wc] 28)).alloc (.cells #[b8 ry.fn, b8 ry.ex, .slice by' ry.bits.length ey, .slice ay ry.words.length cy, b16 ry.at_, b16 ry.many] 36)) = Z8 at *
  clear hZ
  have x0 : Z8.cell? ⟨w7.heap.size + 1, 0, none⟩ = some (b8 rx.fn) := cell_of_row _ _ _ _ _ _ (K8.out.at_ (c := #[b8 rx.fn, b8 rx.ex, .slice bx rx.bits.length ex, .slice ax rx.words.length cx, b16 rx.at_, b16 rx.many]) (t := 36) (by simp))
  have x1 : Z8.cell? ⟨w7.heap.size + 1, 1, none⟩ = some (b8 rx.ex) := cell_of_row _ _ _ _ _ _ (K8.out.at_ (c := #[b8 rx.fn, b8 rx.ex, .slice bx rx.bits.length ex, .slice ax rx.words.length cx, b16 rx.at_, b16 rx.many]) (t := 36) (by simp))
  have x2 : Z8.cell? ⟨w7.heap.size + 1, 2, none⟩ = some (.slice bx rx.bits.length ex) := cell_of_row _ _ _ _ _ _ (K8.out.at_ (c := #[b8 rx.fn, b8 rx.ex, .slice bx rx.bits.length ex, .slice ax rx.words.length cx, b16 rx.at_, b16 rx.many]) (t := 36) (by simp))
  have x3 : Z8.cell? ⟨w7.heap.size + 1, 3, none⟩ = some (.slice ax rx.words.length cx) := cell_of_row _ _ _ _ _ _ (K8.out.at_ (c := #[b8 rx.fn, b8 rx.ex, .slice bx rx.bits.length ex, .slice ax rx.words.length cx, b16 rx.at_, b16 rx.many]) (t := 36) (by simp))
  have x4 : Z8.cell? ⟨w7.heap.size + 1, 4, none⟩ = some (b16 rx.at_) := cell_of_row _ _ _ _ _ _ (K8.out.at_ (c := #[b8 rx.fn, b8 rx.ex, .slice bx rx.bits.length ex, .slice ax rx.words.length cx, b16 rx.at_, b16 rx.many]) (t := 36) (by simp))
  have x5 : Z8.cell? ⟨w7.heap.size + 1, 5, none⟩ = some (b16 rx.many) := cell_of_row _ _ _ _ _ _ (K8.out.at_ (c := #[b8 rx.fn, b8 rx.ex, .slice bx rx.bits.length ex, .slice ax rx.words.length cx, b16 rx.at_, b16 rx.many]) (t := 36) (by simp))
  have y0 : Z8.cell? ⟨w8.heap.size + 1, 0, none⟩ = some (b8 ry.fn) := cell_of_row _ _ _ _ _ _ (K8.out.at_ (c := #[b8 ry.fn, b8 ry.ex, .slice by' ry.bits.length ey, .slice ay ry.words.length cy, b16 ry.at_, b16 ry.many]) (t := 36) (by simp))
  have y1 : Z8.cell? ⟨w8.heap.size + 1, 1, none⟩ = some (b8 ry.ex) := cell_of_row _ _ _ _ _ _ (K8.out.at_ (c := #[b8 ry.fn, b8 ry.ex, .slice by' ry.bits.length ey, .slice ay ry.words.length cy, b16 ry.at_, b16 ry.many]) (t := 36) (by simp))
  have y2 : Z8.cell? ⟨w8.heap.size + 1, 2, none⟩ = some (.slice by' ry.bits.length ey) := cell_of_row _ _ _ _ _ _ (K8.out.at_ (c := #[b8 ry.fn, b8 ry.ex, .slice by' ry.bits.length ey, .slice ay ry.words.length cy, b16 ry.at_, b16 ry.many]) (t := 36) (by simp))
  have y3 : Z8.cell? ⟨w8.heap.size + 1, 3, none⟩ = some (.slice ay ry.words.length cy) := cell_of_row _ _ _ _ _ _ (K8.out.at_ (c := #[b8 ry.fn, b8 ry.ex, .slice by' ry.bits.length ey, .slice ay ry.words.length cy, b16 ry.at_, b16 ry.many]) (t := 36) (by simp))
  have y4 : Z8.cell? ⟨w8.heap.size + 1, 4, none⟩ = some (b16 ry.at_) := cell_of_row _ _ _ _ _ _ (K8.out.at_ (c := #[b8 ry.fn, b8 ry.ex, .slice by' ry.bits.length ey, .slice ay ry.words.length cy, b16 ry.at_, b16 ry.many]) (t := 36) (by simp))
  have y5 : Z8.cell? ⟨w8.heap.size + 1, 5, none⟩ = some (b16 ry.many) := cell_of_row _ _ _ _ _ _ (K8.out.at_ (c := #[b8 ry.fn, b8 ry.ex, .slice by' ry.bits.length ey, .slice ay ry.words.length cy, b16 ry.at_, b16 ry.many]) (t := 36) (by simp))
  have o0 : Z8.cell? ⟨w2.heap.size + 1, 0, none⟩ = some (b8 r.fn) := cell_of_row _ _ _ _ _ _ (K8.out.at_ (c := #[b8 r.fn, b8 r.ex, .slice b1 r.bits.length e1, .slice a1 r.words.length c1, b16 r.at_, b16 r.many]) (t := 36) (by simp))
  have o1 : Z8.cell? ⟨w2.heap.size + 1, 1, none⟩ = some (b8 r.ex) := cell_of_row _ _ _ _ _ _ (K8.out.at_ (c := #[b8 r.fn, b8 r.ex, .slice b1 r.bits.length e1, .slice a1 r.words.length c1, b16 r.at_, b16 r.many]) (t := 36) (by simp))
  have o2 : Z8.cell? ⟨w2.heap.size + 1, 2, none⟩ = some (.slice b1 r.bits.length e1) := cell_of_row _ _ _ _ _ _ (K8.out.at_ (c := #[b8 r.fn, b8 r.ex, .slice b1 r.bits.length e1, .slice a1 r.words.length c1, b16 r.at_, b16 r.many]) (t := 36) (by simp))
  have o3 : Z8.cell? ⟨w2.heap.size + 1, 3, none⟩ = some (.slice a1 r.words.length c1) := cell_of_row _ _ _ _ _ _ (K8.out.at_ (c := #[b8 r.fn, b8 r.ex, .slice b1 r.bits.length e1, .slice a1 r.words.length c1, b16 r.at_, b16 r.many]) (t := 36) (by simp))
  have o4 : Z8.cell? ⟨w2.heap.size + 1, 4, none⟩ = some (b16 r.at_) := cell_of_row _ _ _ _ _ _ (K8.out.at_ (c := #[b8 r.fn, b8 r.ex, .slice b1 r.bits.length e1, .slice a1 r.words.length c1, b16 r.at_, b16 r.many]) (t := 36) (by simp))
  have o5 : Z8.cell? ⟨w2.heap.size + 1, 5, none⟩ = some (b16 r.many) := cell_of_row _ _ _ _ _ _ (K8.out.at_ (c := #[b8 r.fn, b8 r.ex, .slice b1 r.bits.length e1, .slice a1 r.words.length c1, b16 r.at_, b16 r.many]) (t := 36) (by simp))
  have u0 : Z8.cell? ⟨w.heap.size + 1 + 1, 0, none⟩ = some (b8 F) := cell_of_row _ _ _ _ _ _ (K8.out.at_ (c := #[b8 F, b16 A, b16 N, .int .u16 0, .slice none 0 0, .slice none 0 0]) (t := 31) (by simp))
  clear x0 x4 x5 y0 y4 y5 o0 o1 o4 o5
  by_cases hF2 : 2 < F.toNat
  · have t5 : decide ((2 : Int) < (F.toNat : Int)) = true := by simp; omega
    have HWE := Lib.hid (HWO.out hF2)
    clear hF2 x2 y2 o2
    obtain ⟨i0, hi0, hz0, hz1, hz2⟩ := info_parts info16
    have hz2' : i0.bytes = 2 := hz2
    have HI := Lib.hid (And.intro hi0 (And.intro hz0 (And.intro hz1 hz2')))
    clear hi0 hz0 hz1 hz2 hz2'
    have HE := Lib.hid (show rx.words.length + ry.words.length ≤ 65535 by have h := congrArg List.length HWE.out; rw [List.length_append] at h; have := HLN.out.1; omega)
    have LX := Lib.hid (block_lt_of_cell x3)
    have LY := Lib.hid (block_lt_of_cell y3)
    have LR := Lib.hid (block_lt_of_cell o3)
    have SX1 : Hid (Sl b16 (Z8.alloc (.cells #[] 29)).drew Z8.heap.size ax rx.words.length cx rx.words) := Lib.hid (HR8.out.2.1.words.alloc (Nat.le_refl _) _)
    have BZ := Lib.hid ((below_al Z8 (.cells #[] 29)).drew)
    go_wp2_with fail
    go_region_held3 (fun w' => w'.cell? ⟨w7.heap.size + 1, 3, none⟩ = some (.slice ax rx.words.length cx) ∧ w'.cell? ⟨w8.heap.size + 1, 3, none⟩ = some (.slice ay ry.words.length cy) ∧ w'.cell? ⟨w2.heap.size + 1, 3, none⟩ = some (.slice a1 r.words.length c1))
      (first
        | with_reducible exact ⟨x3, y3, o3⟩
        | with_reducible exact hk9
        | with_reducible exact hk10
        | with_reducible exact hk11
        | with_reducible exact hk12
        | go_keep)
      (first
        | ((refine step_append_any (f := b16) one16 (by rfl) (.tmp 109) (.tmp 111) 26 (by rfl) Z8.heap.size 29 i0 (.int .u16 0) 2 Try.underlying26 HI.out.1 HI.out.2.1 HI.out.2.2.1 HI.out.2.2.2 rfl (.slice (some ⟨Z8.heap.size, 0, none⟩) 0 0) 0 [] (by rfl) ((World.ownsRow_made Z8 #[] 0 (Nat.le_refl _) (by unfold maxLen; omega) rfl).drew) ax rx.words.length cx (by rfl) SX1.out (by have := HE.out; unfold maxLen; omega) (by have := HE.out; omega) (by simp) ?_; intro v9 w9 hown9 hg9; simp only [Nat.zero_add, List.nil_append] at hown9; have hb9 := Grew.below BZ.out hg9 (by simp) (by simp [Value.ownBlock]); have HB9 := Lib.hid hb9; have HO9 := Lib.hid hown9; have hk9 : w9.cell? ⟨w7.heap.size + 1, 3, none⟩ = some (.slice ax rx.words.length cx) ∧ w9.cell? ⟨w8.heap.size + 1, 3, none⟩ = some (.slice ay ry.words.length cy) ∧ w9.cell? ⟨w2.heap.size + 1, 3, none⟩ = some (.slice a1 r.words.length c1) := ⟨(hb9.cell LX.out).trans x3, (hb9.cell LY.out).trans y3, (hb9.cell LR.out).trans o3⟩; clear hown9 hg9 hb9))
        | (revert HO9; intro HO9; (refine step_append_any (f := b16) one16 (by rfl) (.tmp 112) (.tmp 114) 26 (by rfl) Z8.heap.size 29 i0 (.int .u16 0) 2 Try.underlying26 HI.out.1 HI.out.2.1 HI.out.2.2.1 HI.out.2.2.2 rfl v9 rx.words.length (rx.words.map b16) (by rfl) HO9.out ay ry.words.length cy (by rfl) (HR8.out.2.2.words.below HB9.out (Nat.le_refl _)) (by have := HE.out; unfold maxLen; omega) (by have := HE.out; omega) HB9.out.size ?_; intro v10 w10 hown10 hg10; rw [← List.map_append] at hown10; have hb10 := Grew.below HB9.out hg10 HB9.out.size (fun k hk => (HO9.out.lt k hk).1); have HB10 := Lib.hid hb10; have hk10 : w10.cell? ⟨w7.heap.size + 1, 3, none⟩ = some (.slice ax rx.words.length cx) ∧ w10.cell? ⟨w8.heap.size + 1, 3, none⟩ = some (.slice ay ry.words.length cy) ∧ w10.cell? ⟨w2.heap.size + 1, 3, none⟩ = some (.slice a1 r.words.length c1) := ⟨(hb10.cell LX.out).trans x3, (hb10.cell LY.out).trans y3, (hb10.cell LR.out).trans o3⟩; obtain ⟨a10, c10, rfl, hs10⟩ := Sl.of_own hown10; have HS10 := Lib.hid hs10; clear hown10 hg10 hb10 hs10))
        | (revert HS10; intro HS10; go_at_call 17; (with_reducible refine (words_true HS10.out (HR8.out.1.words.below HB10.out (Nat.le_refl _)) HWE.out).mono ?_); rintro e w11 ⟨rfl, hb11⟩; have HB11 := Lib.hid (HB10.out.trans (hb11.mono HB10.out.size)); have hk11 : w11.cell? ⟨w7.heap.size + 1, 3, none⟩ = some (.slice ax rx.words.length cx) ∧ w11.cell? ⟨w8.heap.size + 1, 3, none⟩ = some (.slice ay ry.words.length cy) ∧ w11.cell? ⟨w2.heap.size + 1, 3, none⟩ = some (.slice a1 r.words.length c1) := ⟨(HB11.out.cell LX.out).trans x3, (HB11.out.cell LY.out).trans y3, (HB11.out.cell LR.out).trans o3⟩; clear hb11)
        | (revert HB11; intro HB11; go_at_call 10; (with_reducible refine (HAW.out w11).mono ?_); rintro e w12 ⟨rfl, hb12⟩; have HB12 := Lib.hid (HB11.out.trans (hb12.mono HB11.out.size)); have hk12 : w12.cell? ⟨w7.heap.size + 1, 3, none⟩ = some (.slice ax rx.words.length cx) ∧ w12.cell? ⟨w8.heap.size + 1, 3, none⟩ = some (.slice ay ry.words.length cy) ∧ w12.cell? ⟨w2.heap.size + 1, 3, none⟩ = some (.slice a1 r.words.length c1) := ⟨(HB12.out.cell LX.out).trans x3, (HB12.out.cell LY.out).trans y3, (HB12.out.cell LR.out).trans o3⟩; clear hb12))
    go_wp2_with fail
    go_ret
    exact ⟨rfl, K8.out.below.trans (HB12.out.mono K8.out.below.size)⟩
  have t5 : decide ((2 : Int) < (F.toNat : Int)) = false := by simp; omega
  have HWE := Lib.hid (HBI.out (by omega))
  clear hF2 x3 y3 o3
  obtain ⟨i0, hi0, hz0, hz1, hz2⟩ := info_parts infoBq
  have hz2' : i0.bytes = 1 := hz2
  have HI := Lib.hid (And.intro hi0 (And.intro hz0 (And.intro hz1 hz2')))
  clear hi0 hz0 hz1 hz2 hz2'
  have t6 : decide ((rx.bits.length : Int) < (k.toNat : Int)) = false := by have := HWE.out.1; simp; omega
  have t7 : decide ((ry.bits.length : Int) < (k2.toNat : Int)) = false := by have := HWE.out.2.1; simp; omega
  have t8 : decide ((r.bits.length : Int) < (N.toNat : Int)) = false := by have := HWE.out.2.2.1; simp; omega
  have n6 : k.toNat ≤ rx.bits.length := HWE.out.1
  have n7 : k2.toNat ≤ ry.bits.length := HWE.out.2.1
  have n8 : N.toNat ≤ r.bits.length := HWE.out.2.2.1
  have v6 : (k.toNat : Int) ≤ (ex : Int) := by have := HWE.out.1; have := HR8.out.2.1.bits.nle; omega
  have v7 : (k2.toNat : Int) ≤ (ey : Int) := by have := HWE.out.2.1; have := HR8.out.2.2.bits.nle; omega
  have v8 : (N.toNat : Int) ≤ (e1 : Int) := by have := HWE.out.2.2.1; have := HR8.out.1.bits.nle; omega
  have SLX := Lib.hid (HR8.out.2.1.bits.take_ HWE.out.1)
  have SLY := Lib.hid (HR8.out.2.2.bits.take_ HWE.out.2.1)
  have SLR := Lib.hid (HR8.out.1.bits.take_ HWE.out.2.2.1)
  have hK := k.toNat_lt
  have hK2 := k2.toNat_lt
  have LX := Lib.hid (block_lt_of_cell x2)
  have LY := Lib.hid (block_lt_of_cell y2)
  have LR := Lib.hid (block_lt_of_cell o2)
  have SX1 : Hid (Sl Value.bool (Z8.alloc (.cells #[] 4)).drew Z8.heap.size bx k.toNat ex (rx.bits.take k.toNat)) := Lib.hid (SLX.out.alloc (Nat.le_refl _) _)
  have BZ := Lib.hid ((below_al Z8 (.cells #[] 4)).drew)
  go_wp2_with fail
  all_goals try (exfalso; omega)
  go_region_held3 (fun w' => w'.cell? ⟨w7.heap.size + 1, 2, none⟩ = some (.slice bx rx.bits.length ex) ∧ w'.cell? ⟨w8.heap.size + 1, 2, none⟩ = some (.slice by' ry.bits.length ey) ∧ w'.cell? ⟨w2.heap.size + 1, 2, none⟩ = some (.slice b1 r.bits.length e1))
    (first
      | with_reducible exact ⟨x2, y2, o2⟩
      | with_reducible exact hk9
      | with_reducible exact hk10
      | with_reducible exact hk11
      | with_reducible exact hk12
      | go_keep)
    (first
      | ((refine step_append_any (f := Value.bool) oneB (by rfl) (.tmp 146) (.tmp 150) 25 (by rfl) Z8.heap.size 4 i0 (.bool false) 1 Try.underlying25 HI.out.1 HI.out.2.1 HI.out.2.2.1 HI.out.2.2.2 rfl (.slice (some ⟨Z8.heap.size, 0, none⟩) 0 0) 0 [] (by rfl) ((World.ownsRow_made Z8 #[] 0 (Nat.le_refl _) (by unfold maxLen; omega) rfl).drew) bx k.toNat ex (by rfl) SX1.out (by unfold maxLen; omega) (by omega) (by simp) ?_; intro v9 w9 hown9 hg9; simp only [Nat.zero_add, List.nil_append] at hown9; have HB9 := Lib.hid (Grew.below BZ.out hg9 (by simp) (by simp [Value.ownBlock])); have HO9 := Lib.hid hown9; have hk9 : w9.cell? ⟨w7.heap.size + 1, 2, none⟩ = some (.slice bx rx.bits.length ex) ∧ w9.cell? ⟨w8.heap.size + 1, 2, none⟩ = some (.slice by' ry.bits.length ey) ∧ w9.cell? ⟨w2.heap.size + 1, 2, none⟩ = some (.slice b1 r.bits.length e1) := ⟨(HB9.out.cell LX.out).trans x2, (HB9.out.cell LY.out).trans y2, (HB9.out.cell LR.out).trans o2⟩; clear hown9 hg9))
      | (revert HO9; intro HO9; (refine step_append_any (f := Value.bool) oneB (by rfl) (.tmp 151) (.tmp 157) 25 (by rfl) Z8.heap.size 4 i0 (.bool false) 1 Try.underlying25 HI.out.1 HI.out.2.1 HI.out.2.2.1 HI.out.2.2.2 rfl v9 k.toNat ((rx.bits.take k.toNat).map Value.bool) (by rfl) HO9.out by' k2.toNat ey (by rfl) (SLY.out.below HB9.out (Nat.le_refl _)) (by unfold maxLen; omega) (by omega) HB9.out.size ?_; intro v10 w10 hown10 hg10; rw [← List.map_append] at hown10; have HB10 := Lib.hid (Grew.below HB9.out hg10 HB9.out.size (fun k hk => (HO9.out.lt k hk).1)); have hk10 : w10.cell? ⟨w7.heap.size + 1, 2, none⟩ = some (.slice bx rx.bits.length ex) ∧ w10.cell? ⟨w8.heap.size + 1, 2, none⟩ = some (.slice by' ry.bits.length ey) ∧ w10.cell? ⟨w2.heap.size + 1, 2, none⟩ = some (.slice b1 r.bits.length e1) := ⟨(HB10.out.cell LX.out).trans x2, (HB10.out.cell LY.out).trans y2, (HB10.out.cell LR.out).trans o2⟩; obtain ⟨a10, c10, rfl, hs10⟩ := Sl.of_own hown10; have HS10 := Lib.hid hs10; clear hown10 hg10 hs10))
      | (revert HS10; intro HS10; go_at_call 16; (with_reducible refine (bits_true HS10.out (SLR.out.below HB10.out (Nat.le_refl _)) HWE.out.2.2.2).mono ?_); rintro e w11 ⟨rfl, hb11⟩; have HB11 := Lib.hid (HB10.out.trans (hb11.mono HB10.out.size)); have hk11 : w11.cell? ⟨w7.heap.size + 1, 2, none⟩ = some (.slice bx rx.bits.length ex) ∧ w11.cell? ⟨w8.heap.size + 1, 2, none⟩ = some (.slice by' ry.bits.length ey) ∧ w11.cell? ⟨w2.heap.size + 1, 2, none⟩ = some (.slice b1 r.bits.length e1) := ⟨(HB11.out.cell LX.out).trans x2, (HB11.out.cell LY.out).trans y2, (HB11.out.cell LR.out).trans o2⟩; clear hb11)
      | (revert HB11; intro HB11; go_at_call 10; (with_reducible refine (HAW.out w11).mono ?_); rintro e w12 ⟨rfl, hb12⟩; have HB12 := Lib.hid (HB11.out.trans (hb12.mono HB11.out.size)); have hk12 : w12.cell? ⟨w7.heap.size + 1, 2, none⟩ = some (.slice bx rx.bits.length ex) ∧ w12.cell? ⟨w8.heap.size + 1, 2, none⟩ = some (.slice by' ry.bits.length ey) ∧ w12.cell? ⟨w2.heap.size + 1, 2, none⟩ = some (.slice b1 r.bits.length e1) := ⟨(HB12.out.cell LX.out).trans x2, (HB12.out.cell LY.out).trans y2, (HB12.out.cell LR.out).trans o2⟩; clear hb12))
  go_wp2_with fail
  go_ret
  exact ⟨rfl, K8.out.below.trans (HB12.out.mono K8.out.below.size)⟩
end Go.Proofs.Ytamdpinfbadflaa.ModW
