/- ModLawServes: what was ModLawServes, ModArgs. -/
import Derived.Test.YtamdpinfbadflaaModR
import Derived.Test.YtamdpinfbadflaaReplyArgs
import Derived.Test.YtamdpinfbadflaaModF
/- ModLawServes: what was ModServe, ModServeP, ModLawServes. -/
/- model.put and model.Serve: contracts. -/
open Go.RowKit
namespace Go.Proofs.Ytamdpinfbadflaa.ModW
open AskM ReplyM ModM Mem AskW ReplyW

/-- The call answers these bytes, in a row of its own. -/
def PutR (b : List UInt8) (w : World) (e : Ending) (w' : World) : Prop := ∃ a c, e = .returned (.slice a b.length c) ∧ Sl b8 w' w'.heap.size a b.length c b ∧ Below w.heap.size w w' ∧ ∀ x : Addr, a = some x → w.heap.size ≤ x.block

set_option maxHeartbeats 1000000 in
theorem put_any (r : Rep) (aw : Option Addr) (cw : Nat) (ab : Option Addr) (cb : Nat) (b : List UInt8) (w : World) (hA : RepAt w w.heap.size r aw cw ab cb) (hw : r.words.length ≤ 1000000) (hb : r.bits.length ≤ 1000000) (hr : rbytesN r = some b) :
    Calls Try.prog 38 #[repV r aw cw ab cb] w (PutR b w) := by
  have hbox := Box1.new w #[b8 r.fn, b8 r.ex, .slice ab r.bits.length cb, .slice aw r.words.length cw, b16 r.at_, b16 r.many] 36
  have hBY := RBytes_any r aw cw ab cb _ (hA.below hbox.below) hw hb
  rw [hr] at hBY
  have HBY := Lib.hid hBY
  have HB := Lib.hid hbox
  have C := hbox.c
  clear hBY hbox hA hw hb hr
  obtain ⟨f1, x1, b1, s1, a1, m1⟩ := r
  go_enter Try.func38, Try.ntmps38
  have C0 := C 0
  have C1 := C 1
  have C2 := C 2
  have C3 := C 3
  have C4 := C 4
  have C5 := C 5
  clear C
  simp at C0 C1 C2 C3 C4 C5
  go_wp2_with fail
  refine HBY.out.mono ?_
  rintro e w1 ⟨a, c, rfl, hS, hbl, hx⟩
  have HS := Lib.hid (And.intro hS (And.intro (HB.out.below.trans (hbl.mono HB.out.below.size)) (fun x h => Nat.le_trans HB.out.below.size (hx x h) : ∀ x : Addr, a = some x → w.heap.size ≤ x.block)))
  clear hS hbl hx HBY
  go_wp2_with fail
  go_ret
  exact ⟨a, c, rfl, HS.out.1, HS.out.2.1, HS.out.2.2⟩

/-- A row of numbers or bits reads the same when slices are stored into a block that holds slices. -/
theorem sl_past {α : Type} {f : α → Value} {W : World} {g B n c : Nat} {a : Option Addr} {l : List α} {c0 c1 c2 c3 v0 v1 v2 v3 : Value} {T : TypeId} (h : Sl f W B a n c l)
    (hg : W.heap[g]? = some (.cells #[c0, c1, c2, c3] T (0, 0))) (hf : ∀ y, f y ≠ c0 ∧ f y ≠ c1 ∧ f y ≠ c2 ∧ f y ≠ c3) : Sl f (set4 W g v0 v1 v2 v3) B a n c l := by
  obtain ⟨h1, h2, h3, h5, h4⟩ := h
  refine ⟨h1, h2, h3, h5, fun hn => ?_⟩
  obtain ⟨b, off, ha, hb, hr⟩ := h4 hn
  refine ⟨b, off, ha, hb, fun i y hy => ?_⟩
  have h1 := hr i y hy
  by_cases e : b = g
  · subst e
    exfalso
    have h2 : W.cell? ⟨b, off + i, none⟩ = (#[c0, c1, c2, c3] : Array Value)[off + i]? := cell_of_row _ _ _ _ _ _ hg
    rw [h1] at h2
    have h3 := hf y
    rcases Nat.lt_or_ge (off + i) 4 with h4 | h4
    · generalize off + i = k at *
      match k, h4 with
      | 0, _ => simp at h2; exact h3.1 h2
      | 1, _ => simp at h2; exact h3.2.1 h2
      | 2, _ => simp at h2; exact h3.2.2.1 h2
      | 3, _ => simp at h2; exact h3.2.2.2 h2
    · rw [Array.getElem?_eq_none (by simpa using h4)] at h2
      cases h2
  · exact (World.cell?_of_block (a := ⟨b, off + i, none⟩) (set4_other e)).trans h1

/-- The boxes of Serve, and what has been laid behind. -/
structure VB (w W : World) (S M : Array Value) (l : List (Nat × Array Value × TypeId)) : Prop where
  below : Below w.heap.size w W
  s : W.heap[w.heap.size]? = some (.cells S 24 (0, 0))
  m : W.heap[w.heap.size + 1]? = some (.cells M 28 (0, 0))
  r : W.heap[w.heap.size + 1 + 1]? = some (.cells #[.slice none 0 0, .slice none 0 0, .slice none 0 0, .slice none 0 0] 28 (0, 0))
  has : Has W l
theorem VB.lt {w W : World} {S M : Array Value} {l : List (Nat × Array Value × TypeId)} (h : VB w W S M l) : w.heap.size + 1 + 1 < W.heap.size := (Array.getElem?_eq_some_iff.1 h.r).1
theorem VB.on {w W W' : World} {S M : Array Value} {l : List (Nat × Array Value × TypeId)} (h : VB w W S M l) (hb : Below W.heap.size W W') : VB w W' S M l :=
  ⟨h.below.trans (hb.mono h.below.size), row_cell h.s hb, row_cell h.m hb, row_cell h.r hb, h.has.on hb⟩
theorem VB.one {w W : World} {S M : Array Value} {l : List (Nat × Array Value × TypeId)} (h : VB w W S M l) (c : Array Value) (t : TypeId) : VB w (W.alloc (.cells c t)) S M ((W.heap.size, c, t) :: l) := by
  have h' := h.on ((Below.refl W.heap.size W).alloc (Nat.le_refl _) (.cells c t))
  exact ⟨h'.below, h'.s, h'.m, h'.r, h'.has.cons (heap_alloc_new W _)⟩
theorem VB.two {w W : World} {S M : Array Value} {l : List (Nat × Array Value × TypeId)} (h : VB w W S M l) (c1 c2 : Array Value) (t1 t2 : TypeId) : VB w ((W.alloc (.cells c1 t1)).alloc (.cells c2 t2)) S M ((W.heap.size + 1, c2, t2) :: (W.heap.size, c1, t1) :: l) := by
  have h' := (h.one c1 t1).one c2 t2
  have e : (W.alloc (.cells c1 t1)).heap.size = W.heap.size + 1 := by simp
  rwa [e] at h'
theorem VB.new (w : World) (S M : Array Value) : VB w (((w.alloc (.cells S 24)).alloc (.cells M 28)).alloc (.cells #[.slice none 0 0, .slice none 0 0, .slice none 0 0, .slice none 0 0] 28)) S M [] := by
  have e : ∀ (W : World) (o : Obj), (W.alloc o).heap.size = W.heap.size + 1 := fun W o => by simp
  refine ⟨?_, ?_, ?_, ?_, fun x hx => by cases hx⟩
  · refine ((((Below.refl _ _).alloc (Nat.le_refl _) _).alloc ?_ _).alloc ?_ _) <;> simp only [e] <;> omega
  · rw [Below.heap_alloc _ _ _ (by simp only [e]; omega), Below.heap_alloc _ _ _ (by simp only [e]; omega)]
    exact heap_alloc_new w _
  · rw [Below.heap_alloc _ _ _ (by simp only [e]; omega)]
    have h := heap_alloc_new (w.alloc (.cells S 24)) (.cells M 28)
    rwa [e] at h
  · have h := heap_alloc_new ((w.alloc (.cells S 24)).alloc (.cells M 28)) (.cells #[.slice none 0 0, .slice none 0 0, .slice none 0 0, .slice none 0 0] 28)
    rwa [e, e] at h
theorem VB.at_ {w W : World} {S M : Array Value} {l : List (Nat × Array Value × TypeId)} (h : VB w W S M l) {g : Nat} {c : Array Value} {t : TypeId} (hx : (g, c, t) ∈ l) : W.heap[g]? = some (.cells c t (0, 0)) := h.has _ hx

/-- The memory laid into the result's cell, and the bytes. -/
structure FinS (w W : World) (n : Me) (q : Pl) (a : Option Addr) (c : Nat) (b : List UInt8) : Prop where
  below : Below w.heap.size w W
  r : W.heap[w.heap.size + 1 + 1]? = some (.cells #[.slice q.ca n.coils.length q.cc, .slice q.ia n.inputs.length q.ic, .slice q.ha n.holding.length q.hc, .slice q.wa n.words.length q.wc] 28 (0, 0))
  me : MeAt W W.heap.size n q
  sl : Sl b8 W W.heap.size a b.length c b
theorem FinS.mk' {w W : World} {S M : Array Value} {l : List (Nat × Array Value × TypeId)} {n : Me} {q : Pl} {a : Option Addr} {c : Nat} {b : List UInt8} (h : VB w W S M l) (hm : MeAt W W.heap.size n q) (hs : Sl b8 W W.heap.size a b.length c b) :
    FinS w (set4 W (w.heap.size + 1 + 1) (.slice q.ca n.coils.length q.cc) (.slice q.ia n.inputs.length q.ic) (.slice q.ha n.holding.length q.hc) (.slice q.wa n.words.length q.wc)) n q a c b := by
  refine ⟨set4_below h.below (by omega), set4_row h.r, ?_, ?_⟩
  · rw [set4_size]
    exact ⟨sl_past hm.coils h.r (fun y => by simp), sl_past hm.inputs h.r (fun y => by simp), sl_past hm.holding h.r (fun y => by simp [b16]), sl_past hm.words h.r (fun y => by simp [b16])⟩
  · rw [set4_size]
    exact sl_past hs h.r (fun y => by simp [b8])

/-- What Serve answers, plainly. -/
def serveN (s : Sp) (m : Me) (l : List UInt8) : Me × Rep := if (lookN l).2 ≠ 0 then (m, wrongN (lookN l).1.fn (UInt8.ofNat (lookN l).2)) else doN s m (lookN l).1
def Serves (n : Me) (b : List UInt8) (w : World) (e : Ending) (w' : World) : Prop := ∃ q a c, e = .returned (.tuple #[meV n q, .slice a b.length c]) ∧ MeAt w' w'.heap.size n q ∧ Sl b8 w' w'.heap.size a b.length c b ∧ Below w.heap.size w w'
-- WALK
set_option maxRecDepth 100000 in
set_option maxHeartbeats 4000000 in
theorem Serve_any (s : Sp) (p : Pl) (m : Me) (p2 : Pl) (a : Option Addr) (n0 c : Nat) (l : List UInt8) (b : List UInt8) (w : World) (hS : SpAt w w.heap.size s p) (hM : MeAt w w.heap.size m p2) (hm : MeSmall m) (hL : Sl b8 w w.heap.size a n0 c l)
    (hnw : (lookN l).1.words.length ≤ 65535) (hnb : (lookN l).1.bits.length ≤ 65535) (hr : rbytesN (serveN s m l).2 = some b) (hrw : (serveN s m l).2.words.length ≤ 1000000) (hrb : (serveN s m l).2.bits.length ≤ 1000000) :
    Calls Try.prog 19 #[spV s p, meV m p2, .slice a n0 c] w (Serves (serveN s m l).1 b w) := by
  obtain rfl := hL.len
  have hk3 : (lookN l).2 ≤ 3 := by
    unfold lookN
    split
    · simp
    · split
      · simp
      · split <;> simp
  have hq : serveN s m l = if (lookN l).2 ≠ 0 then (m, wrongN (lookN l).1.fn (UInt8.ofNat (lookN l).2)) else doN s m (lookN l).1 := rfl
  have hLO := fun W (h : Below w.heap.size w W) => Look_any a l.length c l W (sl_on hL h)
  obtain ⟨⟨q, k⟩, hlk⟩ : ∃ x, lookN l = x := ⟨_, rfl⟩
  rw [hlk] at hLO hq hk3 hnw hnb
  have HLO := Lib.hid hLO
  have HCL := Lib.hid (fun W (h : Below w.heap.size w W) => clone_any m p2 W (hM.on h) hm)
  have HDO := Lib.hid (fun aw cw ab cb W (h : Below w.heap.size w W) (hA : AskAt W W.heap.size q aw cw ab cb) => Do_at s p m p2 q aw cw ab cb W (hS.on h) (hM.on h) hm hA hnw hnb)
  obtain ⟨⟨n, r⟩, hnr⟩ : ∃ x, serveN s m l = x := ⟨_, rfl⟩
  rw [hnr] at hq hr hrw hrb
  rw [hnr]
  have HPU := Lib.hid (fun aw cw ab cb W (hA : RepAt W W.heap.size r aw cw ab cb) => put_any r aw cw ab cb b W hA hrw hrb hr)
  have HQ := Lib.hid hq
  obtain ⟨ca, cc, ia, ic, ha, hc, wa, wc⟩ := p
  obtain ⟨da, dc, ja, jc, ka, kc, xa, xc⟩ := p2
  have hvb := VB.new w (#[.slice ca s.coils.length cc, .slice ia s.inputs.length ic, .slice ha s.holding.length hc, .slice wa s.words.length wc]) (#[.slice da m.coils.length dc, .slice ja m.inputs.length jc, .slice ka m.holding.length kc, .slice xa m.words.length xc])
  clear hS hM hm hL hnw hnb hr hrw hrb hq hnr hlk hLO
  go_enter Try.func19, Try.ntmps19
  go_wp2_with fail
  generalize ((w.alloc (.cells #[.slice ca s.coils.length cc, .slice ia s.inputs.length ic, .slice ha s.holding.length hc, .slice wa s.words.length wc] 24)).alloc (.cells #[.slice da m.coils.length dc, .slice ja m.inputs.length jc, .slice ka m.holding.length kc, .slice xa m.words.length xc] 28)).alloc (.cells #[.slice none 0 0, .slice none 0 0, .slice none 0 0, .slice none 0 0] 28) = W0 at *
  have K0 := Lib.hid hvb
  clear hvb
  refine (HLO.out W0 K0.out.below).mono ?_
  rintro e w1 ⟨aw, cw, ab, cb, rfl, hA, hb, hx⟩
  have K1 := Lib.hid ((K0.out.on hb).one (#[b8 q.fn, b16 q.at_, b16 q.many, b16 q.to_, .slice aw q.words.length cw, .slice ab q.bits.length cb]) 31)
  have hb1 := (Below.refl w1.heap.size w1).alloc (Nat.le_refl _) (.cells #[b8 q.fn, b16 q.at_, b16 q.many, b16 q.to_, .slice aw q.words.length cw, .slice ab q.bits.length cb] 31)
  have HA1 : Hid (AskAt (w1.alloc (.cells #[b8 q.fn, b16 q.at_, b16 q.many, b16 q.to_, .slice aw q.words.length cw, .slice ab q.bits.length cb] 31)) (w1.alloc (.cells #[b8 q.fn, b16 q.at_, b16 q.many, b16 q.to_, .slice aw q.words.length cw, .slice ab q.bits.length cb] 31)).heap.size q aw cw ab cb) := Lib.hid ⟨(hA.words.below hb1 (Nat.le_refl _)).more hb1.size, (hA.bits.below hb1 (Nat.le_refl _)).more hb1.size⟩
  have K0lt := Lib.hid K0.out.lt
  have HSZ := Lib.hid hb.size
  clear hA hb hx hb1 K0 HLO
  by_cases hk : k = 0
  · subst hk
    have HQ2 : Hid ((n, r) = doN s m q) := Lib.hid (by have h := HQ.out; rwa [if_neg (by simp)] at h)
    clear HQ HCL hk3
    have e0 : ((0 : Int) != 0) = false := rfl
    have s0 : (w1.alloc (.cells #[b8 q.fn, b16 q.at_, b16 q.many, b16 q.to_, .slice aw q.words.length cw, .slice ab q.bits.length cb] 31)).cell? ⟨w.heap.size, 0, none⟩ = some (.slice ca s.coils.length cc) := cell_of_row _ _ _ _ _ _ K1.out.s
    have s1 : (w1.alloc (.cells #[b8 q.fn, b16 q.at_, b16 q.many, b16 q.to_, .slice aw q.words.length cw, .slice ab q.bits.length cb] 31)).cell? ⟨w.heap.size, 1, none⟩ = some (.slice ia s.inputs.length ic) := cell_of_row _ _ _ _ _ _ K1.out.s
    have s2 : (w1.alloc (.cells #[b8 q.fn, b16 q.at_, b16 q.many, b16 q.to_, .slice aw q.words.length cw, .slice ab q.bits.length cb] 31)).cell? ⟨w.heap.size, 2, none⟩ = some (.slice ha s.holding.length hc) := cell_of_row _ _ _ _ _ _ K1.out.s
    have s3 : (w1.alloc (.cells #[b8 q.fn, b16 q.at_, b16 q.many, b16 q.to_, .slice aw q.words.length cw, .slice ab q.bits.length cb] 31)).cell? ⟨w.heap.size, 3, none⟩ = some (.slice wa s.words.length wc) := cell_of_row _ _ _ _ _ _ K1.out.s
    have g0 : (w1.alloc (.cells #[b8 q.fn, b16 q.at_, b16 q.many, b16 q.to_, .slice aw q.words.length cw, .slice ab q.bits.length cb] 31)).cell? ⟨w.heap.size + 1, 0, none⟩ = some (.slice da m.coils.length dc) := cell_of_row _ _ _ _ _ _ K1.out.m
    have g1 : (w1.alloc (.cells #[b8 q.fn, b16 q.at_, b16 q.many, b16 q.to_, .slice aw q.words.length cw, .slice ab q.bits.length cb] 31)).cell? ⟨w.heap.size + 1, 1, none⟩ = some (.slice ja m.inputs.length jc) := cell_of_row _ _ _ _ _ _ K1.out.m
    have g2 : (w1.alloc (.cells #[b8 q.fn, b16 q.at_, b16 q.many, b16 q.to_, .slice aw q.words.length cw, .slice ab q.bits.length cb] 31)).cell? ⟨w.heap.size + 1, 2, none⟩ = some (.slice ka m.holding.length kc) := cell_of_row _ _ _ _ _ _ K1.out.m
    have g3 : (w1.alloc (.cells #[b8 q.fn, b16 q.at_, b16 q.many, b16 q.to_, .slice aw q.words.length cw, .slice ab q.bits.length cb] 31)).cell? ⟨w.heap.size + 1, 3, none⟩ = some (.slice xa m.words.length xc) := cell_of_row _ _ _ _ _ _ K1.out.m
    have q0 : (w1.alloc (.cells #[b8 q.fn, b16 q.at_, b16 q.many, b16 q.to_, .slice aw q.words.length cw, .slice ab q.bits.length cb] 31)).cell? ⟨w1.heap.size, 0, none⟩ = some (b8 q.fn) := cell_of_row _ _ _ _ _ _ (K1.out.at_ (c := #[b8 q.fn, b16 q.at_, b16 q.many, b16 q.to_, .slice aw q.words.length cw, .slice ab q.bits.length cb]) (t := 31) (by simp))
    have q1 : (w1.alloc (.cells #[b8 q.fn, b16 q.at_, b16 q.many, b16 q.to_, .slice aw q.words.length cw, .slice ab q.bits.length cb] 31)).cell? ⟨w1.heap.size, 1, none⟩ = some (b16 q.at_) := cell_of_row _ _ _ _ _ _ (K1.out.at_ (c := #[b8 q.fn, b16 q.at_, b16 q.many, b16 q.to_, .slice aw q.words.length cw, .slice ab q.bits.length cb]) (t := 31) (by simp))
    have q2 : (w1.alloc (.cells #[b8 q.fn, b16 q.at_, b16 q.many, b16 q.to_, .slice aw q.words.length cw, .slice ab q.bits.length cb] 31)).cell? ⟨w1.heap.size, 2, none⟩ = some (b16 q.many) := cell_of_row _ _ _ _ _ _ (K1.out.at_ (c := #[b8 q.fn, b16 q.at_, b16 q.many, b16 q.to_, .slice aw q.words.length cw, .slice ab q.bits.length cb]) (t := 31) (by simp))
    have q3 : (w1.alloc (.cells #[b8 q.fn, b16 q.at_, b16 q.many, b16 q.to_, .slice aw q.words.length cw, .slice ab q.bits.length cb] 31)).cell? ⟨w1.heap.size, 3, none⟩ = some (b16 q.to_) := cell_of_row _ _ _ _ _ _ (K1.out.at_ (c := #[b8 q.fn, b16 q.at_, b16 q.many, b16 q.to_, .slice aw q.words.length cw, .slice ab q.bits.length cb]) (t := 31) (by simp))
    have q4 : (w1.alloc (.cells #[b8 q.fn, b16 q.at_, b16 q.many, b16 q.to_, .slice aw q.words.length cw, .slice ab q.bits.length cb] 31)).cell? ⟨w1.heap.size, 4, none⟩ = some (.slice aw q.words.length cw) := cell_of_row _ _ _ _ _ _ (K1.out.at_ (c := #[b8 q.fn, b16 q.at_, b16 q.many, b16 q.to_, .slice aw q.words.length cw, .slice ab q.bits.length cb]) (t := 31) (by simp))
    have q5 : (w1.alloc (.cells #[b8 q.fn, b16 q.at_, b16 q.many, b16 q.to_, .slice aw q.words.length cw, .slice ab q.bits.length cb] 31)).cell? ⟨w1.heap.size, 5, none⟩ = some (.slice ab q.bits.length cb) := cell_of_row _ _ _ _ _ _ (K1.out.at_ (c := #[b8 q.fn, b16 q.at_, b16 q.many, b16 q.to_, .slice aw q.words.length cw, .slice ab q.bits.length cb]) (t := 31) (by simp))
    go_wp2_with fail
    generalize (w1.alloc (.cells #[b8 q.fn, b16 q.at_, b16 q.many, b16 q.to_, .slice aw q.words.length cw, .slice ab q.bits.length cb] 31)) = W1 at *
    refine (HDO.out aw cw ab cb W1 K1.out.below HA1.out).mono ?_
    rw [← HQ2.out]
    rintro e w3 ⟨⟨ea, ec, la, lc, na, nc, ya, yc⟩, b1, e1, b2, e2, rfl, hmN, hrN, hb⟩
    have K3 := Lib.hid ((K1.out.on hb).two (#[.slice ea n.coils.length ec, .slice la n.inputs.length lc, .slice na n.holding.length nc, .slice ya n.words.length yc]) (#[b8 r.fn, b8 r.ex, .slice b2 r.bits.length e2, .slice b1 r.words.length e1, b16 r.at_, b16 r.many]) 28 36)
    have hb3 := below_two w3 (.cells #[.slice ea n.coils.length ec, .slice la n.inputs.length lc, .slice na n.holding.length nc, .slice ya n.words.length yc] 28) (.cells #[b8 r.fn, b8 r.ex, .slice b2 r.bits.length e2, .slice b1 r.words.length e1, b16 r.at_, b16 r.many] 36)
    have HN := Lib.hid (And.intro (hmN.on hb3) (hrN.below hb3))
    have hK : Hold ((w3.alloc (.cells #[.slice ea n.coils.length ec, .slice la n.inputs.length lc, .slice na n.holding.length nc, .slice ya n.words.length yc] 28)).alloc (.cells #[b8 r.fn, b8 r.ex, .slice b2 r.bits.length e2, .slice b1 r.words.length e1, b16 r.at_, b16 r.many] 36)) w3.heap.size (w3.heap.size + 1) (.slice ea n.coils.length ec) (.slice la n.inputs.length lc) (.slice na n.holding.length nc) (.slice ya n.words.length yc) (b8 r.fn) (b8 r.ex) (.slice b2 r.bits.length e2) (.slice b1 r.words.length e1) (b16 r.at_) (b16 r.many) := ⟨cell_of_row _ _ _ _ _ _ (K3.out.at_ (c := #[.slice ea n.coils.length ec, .slice la n.inputs.length lc, .slice na n.holding.length nc, .slice ya n.words.length yc]) (t := 28) (by simp)), cell_of_row _ _ _ _ _ _ (K3.out.at_ (c := #[.slice ea n.coils.length ec, .slice la n.inputs.length lc, .slice na n.holding.length nc, .slice ya n.words.length yc]) (t := 28) (by simp)), cell_of_row _ _ _ _ _ _ (K3.out.at_ (c := #[.slice ea n.coils.length ec, .slice la n.inputs.length lc, .slice na n.holding.length nc, .slice ya n.words.length yc]) (t := 28) (by simp)), cell_of_row _ _ _ _ _ _ (K3.out.at_ (c := #[.slice ea n.coils.length ec, .slice la n.inputs.length lc, .slice na n.holding.length nc, .slice ya n.words.length yc]) (t := 28) (by simp)), cell_of_row _ _ _ _ _ _ (K3.out.at_ (c := #[b8 r.fn, b8 r.ex, .slice b2 r.bits.length e2, .slice b1 r.words.length e1, b16 r.at_, b16 r.many]) (t := 36) (by simp)), cell_of_row _ _ _ _ _ _ (K3.out.at_ (c := #[b8 r.fn, b8 r.ex, .slice b2 r.bits.length e2, .slice b1 r.words.length e1, b16 r.at_, b16 r.many]) (t := 36) (by simp)), cell_of_row _ _ _ _ _ _ (K3.out.at_ (c := #[b8 r.fn, b8 r.ex, .slice b2 r.bits.length e2, .slice b1 r.words.length e1, b16 r.at_, b16 r.many]) (t := 36) (by simp)), cell_of_row _ _ _ _ _ _ (K3.out.at_ (c := #[b8 r.fn, b8 r.ex, .slice b2 r.bits.length e2, .slice b1 r.words.length e1, b16 r.at_, b16 r.many]) (t := 36) (by simp)), cell_of_row _ _ _ _ _ _ (K3.out.at_ (c := #[b8 r.fn, b8 r.ex, .slice b2 r.bits.length e2, .slice b1 r.words.length e1, b16 r.at_, b16 r.many]) (t := 36) (by simp)), cell_of_row _ _ _ _ _ _ (K3.out.at_ (c := #[b8 r.fn, b8 r.ex, .slice b2 r.bits.length e2, .slice b1 r.words.length e1, b16 r.at_, b16 r.many]) (t := 36) (by simp))⟩
    have HLT : Hid (w.heap.size + 1 + 1 < w3.heap.size) := Lib.hid (Nat.lt_of_lt_of_le K1.out.lt hb.size)
    clear hb hb3 hmN hrN s0 s1 s2 s3 g0 g1 g2 g3 q0 q1 q2 q3 q4 q5 HDO HA1
    go_wp2_with fail
    generalize ((w3.alloc (.cells #[.slice ea n.coils.length ec, .slice la n.inputs.length lc, .slice na n.holding.length nc, .slice ya n.words.length yc] 28)).alloc (.cells #[b8 r.fn, b8 r.ex, .slice b2 r.bits.length e2, .slice b1 r.words.length e1, b16 r.at_, b16 r.many] 36)) = Z3 at *
    have HBD := Lib.hid (Below.refl Z3.heap.size Z3).drew
    have KD := Lib.hid (K3.out.on HBD.out)
    have hk0 := hK
    have hk1 : Hold Z3.drew w3.heap.size (w3.heap.size + 1) (.slice ea n.coils.length ec) (.slice la n.inputs.length lc) (.slice na n.holding.length nc) (.slice ya n.words.length yc) (b8 r.fn) (b8 r.ex) (.slice b2 r.bits.length e2) (.slice b1 r.words.length e1) (b16 r.at_) (b16 r.many) := ⟨cell_of_row _ _ _ _ _ _ (KD.out.at_ (c := #[.slice ea n.coils.length ec, .slice la n.inputs.length lc, .slice na n.holding.length nc, .slice ya n.words.length yc]) (t := 28) (by simp)), cell_of_row _ _ _ _ _ _ (KD.out.at_ (c := #[.slice ea n.coils.length ec, .slice la n.inputs.length lc, .slice na n.holding.length nc, .slice ya n.words.length yc]) (t := 28) (by simp)), cell_of_row _ _ _ _ _ _ (KD.out.at_ (c := #[.slice ea n.coils.length ec, .slice la n.inputs.length lc, .slice na n.holding.length nc, .slice ya n.words.length yc]) (t := 28) (by simp)), cell_of_row _ _ _ _ _ _ (KD.out.at_ (c := #[.slice ea n.coils.length ec, .slice la n.inputs.length lc, .slice na n.holding.length nc, .slice ya n.words.length yc]) (t := 28) (by simp)), cell_of_row _ _ _ _ _ _ (KD.out.at_ (c := #[b8 r.fn, b8 r.ex, .slice b2 r.bits.length e2, .slice b1 r.words.length e1, b16 r.at_, b16 r.many]) (t := 36) (by simp)), cell_of_row _ _ _ _ _ _ (KD.out.at_ (c := #[b8 r.fn, b8 r.ex, .slice b2 r.bits.length e2, .slice b1 r.words.length e1, b16 r.at_, b16 r.many]) (t := 36) (by simp)), cell_of_row _ _ _ _ _ _ (KD.out.at_ (c := #[b8 r.fn, b8 r.ex, .slice b2 r.bits.length e2, .slice b1 r.words.length e1, b16 r.at_, b16 r.many]) (t := 36) (by simp)), cell_of_row _ _ _ _ _ _ (KD.out.at_ (c := #[b8 r.fn, b8 r.ex, .slice b2 r.bits.length e2, .slice b1 r.words.length e1, b16 r.at_, b16 r.many]) (t := 36) (by simp)), cell_of_row _ _ _ _ _ _ (KD.out.at_ (c := #[b8 r.fn, b8 r.ex, .slice b2 r.bits.length e2, .slice b1 r.words.length e1, b16 r.at_, b16 r.many]) (t := 36) (by simp)), cell_of_row _ _ _ _ _ _ (KD.out.at_ (c := #[b8 r.fn, b8 r.ex, .slice b2 r.bits.length e2, .slice b1 r.words.length e1, b16 r.at_, b16 r.many]) (t := 36) (by simp))⟩
    clear hK
    go_region_held3 (fun w' => Hold w' w3.heap.size (w3.heap.size + 1) (.slice ea n.coils.length ec) (.slice la n.inputs.length lc) (.slice na n.holding.length nc) (.slice ya n.words.length yc) (b8 r.fn) (b8 r.ex) (.slice b2 r.bits.length e2) (.slice b1 r.words.length e1) (b16 r.at_) (b16 r.many))
      (first
        | with_reducible exact hk0
        | with_reducible exact hk1
        | with_reducible exact hkC
        | with_reducible exact hkD
        | go_keep)
      (first
        | (revert KD; intro KD; go_at_call 38; (with_reducible refine (HPU.out b1 e1 b2 e2 _ (HN.out.2.below HBD.out)).mono ?_); rintro e wC ⟨aB, cB, rfl, hSB, hbC, hxC⟩; have KC := Lib.hid (KD.out.on hbC); have hkC : Hold wC w3.heap.size (w3.heap.size + 1) (.slice ea n.coils.length ec) (.slice la n.inputs.length lc) (.slice na n.holding.length nc) (.slice ya n.words.length yc) (b8 r.fn) (b8 r.ex) (.slice b2 r.bits.length e2) (.slice b1 r.words.length e1) (b16 r.at_) (b16 r.many) := ⟨cell_of_row _ _ _ _ _ _ (KC.out.at_ (c := #[.slice ea n.coils.length ec, .slice la n.inputs.length lc, .slice na n.holding.length nc, .slice ya n.words.length yc]) (t := 28) (by simp)), cell_of_row _ _ _ _ _ _ (KC.out.at_ (c := #[.slice ea n.coils.length ec, .slice la n.inputs.length lc, .slice na n.holding.length nc, .slice ya n.words.length yc]) (t := 28) (by simp)), cell_of_row _ _ _ _ _ _ (KC.out.at_ (c := #[.slice ea n.coils.length ec, .slice la n.inputs.length lc, .slice na n.holding.length nc, .slice ya n.words.length yc]) (t := 28) (by simp)), cell_of_row _ _ _ _ _ _ (KC.out.at_ (c := #[.slice ea n.coils.length ec, .slice la n.inputs.length lc, .slice na n.holding.length nc, .slice ya n.words.length yc]) (t := 28) (by simp)), cell_of_row _ _ _ _ _ _ (KC.out.at_ (c := #[b8 r.fn, b8 r.ex, .slice b2 r.bits.length e2, .slice b1 r.words.length e1, b16 r.at_, b16 r.many]) (t := 36) (by simp)), cell_of_row _ _ _ _ _ _ (KC.out.at_ (c := #[b8 r.fn, b8 r.ex, .slice b2 r.bits.length e2, .slice b1 r.words.length e1, b16 r.at_, b16 r.many]) (t := 36) (by simp)), cell_of_row _ _ _ _ _ _ (KC.out.at_ (c := #[b8 r.fn, b8 r.ex, .slice b2 r.bits.length e2, .slice b1 r.words.length e1, b16 r.at_, b16 r.many]) (t := 36) (by simp)), cell_of_row _ _ _ _ _ _ (KC.out.at_ (c := #[b8 r.fn, b8 r.ex, .slice b2 r.bits.length e2, .slice b1 r.words.length e1, b16 r.at_, b16 r.many]) (t := 36) (by simp)), cell_of_row _ _ _ _ _ _ (KC.out.at_ (c := #[b8 r.fn, b8 r.ex, .slice b2 r.bits.length e2, .slice b1 r.words.length e1, b16 r.at_, b16 r.many]) (t := 36) (by simp)), cell_of_row _ _ _ _ _ _ (KC.out.at_ (c := #[b8 r.fn, b8 r.ex, .slice b2 r.bits.length e2, .slice b1 r.words.length e1, b16 r.at_, b16 r.many]) (t := 36) (by simp))⟩; obtain ⟨z0, z1, z2, z3, z4⟩ := quad_cells KC.out.r; have hne1 : w3.heap.size ≠ w.heap.size + 1 + 1 := (by have := HLT.out; omega); have hne2 : w3.heap.size + 1 ≠ w.heap.size + 1 + 1 := (by have := HLT.out; omega); have hkD : Hold (set4 wC (w.heap.size + 1 + 1) (.slice ea n.coils.length ec) (.slice la n.inputs.length lc) (.slice na n.holding.length nc) (.slice ya n.words.length yc)) w3.heap.size (w3.heap.size + 1) (.slice ea n.coils.length ec) (.slice la n.inputs.length lc) (.slice na n.holding.length nc) (.slice ya n.words.length yc) (b8 r.fn) (b8 r.ex) (.slice b2 r.bits.length e2) (.slice b1 r.words.length e1) (b16 r.at_) (b16 r.many) := hkC.to (set4_other hne1) (set4_other hne2); have HFIN := Lib.hid (FinS.mk' (n := n) (q := ⟨ea, ec, la, lc, na, nc, ya, yc⟩) KC.out ((HN.out.1.on HBD.out).on hbC) hSB); unfold set4 at hkD HFIN; clear hSB hbC hxC KD hne1 hne2))
    clear hk0 hk1 hkC hkD z0 z1 z2 z3 z4
    go_wp2_with fail
    exact bodyPost_ret (results_cell_row_tmp rfl _ _ (w.heap.size + 1 + 1) 28 _ (0, 0) _ rfl HFIN.out.r Try.underlying28 rfl (by kernel_rfl) _ rfl) rfl ⟨⟨ea, ec, la, lc, na, nc, ya, yc⟩, aB, cB, rfl, HFIN.out.me, HFIN.out.sl, HFIN.out.below⟩

  have e0 : ((k : Int) != 0) = true := by simp; omega
  have HQ2 : Hid ((n, r) = (m, wrongN q.fn (UInt8.ofNat k))) := Lib.hid (by have h := HQ.out; rwa [if_pos hk] at h)
  have hn : n = m := congrArg Prod.fst HQ2.out
  have hr : r = wrongN q.fn (UInt8.ofNat k) := congrArg Prod.snd HQ2.out
  subst hn
  have HWR : Hid (∀ W, Calls Try.prog 22 #[b8 q.fn, .int .u8 (k : Int)] W (Says (repV r none 0 none 0) W)) := Lib.hid fun W => by
    have hx : (.int .u8 (k : Int) : Value) = b8 (UInt8.ofNat k) := by
      have : (UInt8.ofNat k).toNat = k := by simp; omega
      simp only [b8, this]
    rw [hx, hr]
    exact Wrong_any q.fn (UInt8.ofNat k) W
  have HRN : Hid (r.words = [] ∧ r.bits = []) := Lib.hid (by rw [hr]; exact ⟨rfl, rfl⟩)
  have HLT := Lib.hid (Nat.lt_of_lt_of_le K0lt.out HSZ.out)
  clear HQ HQ2 HDO hk3 hk hr HA1
  have hK : Hold (w1.alloc (.cells #[b8 q.fn, b16 q.at_, b16 q.many, b16 q.to_, .slice aw q.words.length cw, .slice ab q.bits.length cb] 31)) (w.heap.size + 1) w1.heap.size (.slice da n.coils.length dc) (.slice ja n.inputs.length jc) (.slice ka n.holding.length kc) (.slice xa n.words.length xc) (b8 q.fn) (b16 q.at_) (b16 q.many) (b16 q.to_) (.slice aw q.words.length cw) (.slice ab q.bits.length cb) := ⟨cell_of_row _ _ _ _ _ _ K1.out.m, cell_of_row _ _ _ _ _ _ K1.out.m, cell_of_row _ _ _ _ _ _ K1.out.m, cell_of_row _ _ _ _ _ _ K1.out.m, cell_of_row _ _ _ _ _ _ (K1.out.at_ (c := #[b8 q.fn, b16 q.at_, b16 q.many, b16 q.to_, .slice aw q.words.length cw, .slice ab q.bits.length cb]) (t := 31) (by simp)), cell_of_row _ _ _ _ _ _ (K1.out.at_ (c := #[b8 q.fn, b16 q.at_, b16 q.many, b16 q.to_, .slice aw q.words.length cw, .slice ab q.bits.length cb]) (t := 31) (by simp)), cell_of_row _ _ _ _ _ _ (K1.out.at_ (c := #[b8 q.fn, b16 q.at_, b16 q.many, b16 q.to_, .slice aw q.words.length cw, .slice ab q.bits.length cb]) (t := 31) (by simp)), cell_of_row _ _ _ _ _ _ (K1.out.at_ (c := #[b8 q.fn, b16 q.at_, b16 q.many, b16 q.to_, .slice aw q.words.length cw, .slice ab q.bits.length cb]) (t := 31) (by simp)), cell_of_row _ _ _ _ _ _ (K1.out.at_ (c := #[b8 q.fn, b16 q.at_, b16 q.many, b16 q.to_, .slice aw q.words.length cw, .slice ab q.bits.length cb]) (t := 31) (by simp)), cell_of_row _ _ _ _ _ _ (K1.out.at_ (c := #[b8 q.fn, b16 q.at_, b16 q.many, b16 q.to_, .slice aw q.words.length cw, .slice ab q.bits.length cb]) (t := 31) (by simp))⟩
  go_wp2_with fail
  generalize (w1.alloc (.cells #[b8 q.fn, b16 q.at_, b16 q.many, b16 q.to_, .slice aw q.words.length cw, .slice ab q.bits.length cb] 31)) = Z1 at *
  have HBD := Lib.hid (Below.refl Z1.heap.size Z1).drew
  have KD := Lib.hid (K1.out.on HBD.out)
  have hk0 := hK
  have hk1 : Hold Z1.drew (w.heap.size + 1) w1.heap.size (.slice da n.coils.length dc) (.slice ja n.inputs.length jc) (.slice ka n.holding.length kc) (.slice xa n.words.length xc) (b8 q.fn) (b16 q.at_) (b16 q.many) (b16 q.to_) (.slice aw q.words.length cw) (.slice ab q.bits.length cb) := ⟨cell_of_row _ _ _ _ _ _ KD.out.m, cell_of_row _ _ _ _ _ _ KD.out.m, cell_of_row _ _ _ _ _ _ KD.out.m, cell_of_row _ _ _ _ _ _ KD.out.m, cell_of_row _ _ _ _ _ _ (KD.out.at_ (c := #[b8 q.fn, b16 q.at_, b16 q.many, b16 q.to_, .slice aw q.words.length cw, .slice ab q.bits.length cb]) (t := 31) (by simp)), cell_of_row _ _ _ _ _ _ (KD.out.at_ (c := #[b8 q.fn, b16 q.at_, b16 q.many, b16 q.to_, .slice aw q.words.length cw, .slice ab q.bits.length cb]) (t := 31) (by simp)), cell_of_row _ _ _ _ _ _ (KD.out.at_ (c := #[b8 q.fn, b16 q.at_, b16 q.many, b16 q.to_, .slice aw q.words.length cw, .slice ab q.bits.length cb]) (t := 31) (by simp)), cell_of_row _ _ _ _ _ _ (KD.out.at_ (c := #[b8 q.fn, b16 q.at_, b16 q.many, b16 q.to_, .slice aw q.words.length cw, .slice ab q.bits.length cb]) (t := 31) (by simp)), cell_of_row _ _ _ _ _ _ (KD.out.at_ (c := #[b8 q.fn, b16 q.at_, b16 q.many, b16 q.to_, .slice aw q.words.length cw, .slice ab q.bits.length cb]) (t := 31) (by simp)), cell_of_row _ _ _ _ _ _ (KD.out.at_ (c := #[b8 q.fn, b16 q.at_, b16 q.many, b16 q.to_, .slice aw q.words.length cw, .slice ab q.bits.length cb]) (t := 31) (by simp))⟩
  clear hK
  go_region_held3 (fun w' => Hold w' (w.heap.size + 1) w1.heap.size (.slice da n.coils.length dc) (.slice ja n.inputs.length jc) (.slice ka n.holding.length kc) (.slice xa n.words.length xc) (b8 q.fn) (b16 q.at_) (b16 q.many) (b16 q.to_) (.slice aw q.words.length cw) (.slice ab q.bits.length cb))
    (first
      | with_reducible exact hk0
      | with_reducible exact hk1
      | with_reducible exact hkA
      | with_reducible exact hkB
      | with_reducible exact hkC
      | with_reducible exact hkD
      | go_keep)
    (first
      | (revert KD; intro KD; go_at_call 23; (with_reducible refine (HCL.out _ KD.out.below).mono ?_); rintro e wA ⟨⟨ea, ec, la, lc, na, nc, ya, yc⟩, rfl, hOA, hbA⟩; have KA := Lib.hid (KD.out.on hbA); have hkA : Hold wA (w.heap.size + 1) w1.heap.size (.slice da n.coils.length dc) (.slice ja n.inputs.length jc) (.slice ka n.holding.length kc) (.slice xa n.words.length xc) (b8 q.fn) (b16 q.at_) (b16 q.many) (b16 q.to_) (.slice aw q.words.length cw) (.slice ab q.bits.length cb) := ⟨cell_of_row _ _ _ _ _ _ KA.out.m, cell_of_row _ _ _ _ _ _ KA.out.m, cell_of_row _ _ _ _ _ _ KA.out.m, cell_of_row _ _ _ _ _ _ KA.out.m, cell_of_row _ _ _ _ _ _ (KA.out.at_ (c := #[b8 q.fn, b16 q.at_, b16 q.many, b16 q.to_, .slice aw q.words.length cw, .slice ab q.bits.length cb]) (t := 31) (by simp)), cell_of_row _ _ _ _ _ _ (KA.out.at_ (c := #[b8 q.fn, b16 q.at_, b16 q.many, b16 q.to_, .slice aw q.words.length cw, .slice ab q.bits.length cb]) (t := 31) (by simp)), cell_of_row _ _ _ _ _ _ (KA.out.at_ (c := #[b8 q.fn, b16 q.at_, b16 q.many, b16 q.to_, .slice aw q.words.length cw, .slice ab q.bits.length cb]) (t := 31) (by simp)), cell_of_row _ _ _ _ _ _ (KA.out.at_ (c := #[b8 q.fn, b16 q.at_, b16 q.many, b16 q.to_, .slice aw q.words.length cw, .slice ab q.bits.length cb]) (t := 31) (by simp)), cell_of_row _ _ _ _ _ _ (KA.out.at_ (c := #[b8 q.fn, b16 q.at_, b16 q.many, b16 q.to_, .slice aw q.words.length cw, .slice ab q.bits.length cb]) (t := 31) (by simp)), cell_of_row _ _ _ _ _ _ (KA.out.at_ (c := #[b8 q.fn, b16 q.at_, b16 q.many, b16 q.to_, .slice aw q.words.length cw, .slice ab q.bits.length cb]) (t := 31) (by simp))⟩; have HOA := Lib.hid hOA.me; clear hOA hbA KD)
      | (revert KA; intro KA; go_at_call 22; (with_reducible refine (HWR.out _).mono ?_); rintro e wB ⟨rfl, hbB⟩; have KB := Lib.hid (KA.out.on hbB); have hkB : Hold wB (w.heap.size + 1) w1.heap.size (.slice da n.coils.length dc) (.slice ja n.inputs.length jc) (.slice ka n.holding.length kc) (.slice xa n.words.length xc) (b8 q.fn) (b16 q.at_) (b16 q.many) (b16 q.to_) (.slice aw q.words.length cw) (.slice ab q.bits.length cb) := ⟨cell_of_row _ _ _ _ _ _ KB.out.m, cell_of_row _ _ _ _ _ _ KB.out.m, cell_of_row _ _ _ _ _ _ KB.out.m, cell_of_row _ _ _ _ _ _ KB.out.m, cell_of_row _ _ _ _ _ _ (KB.out.at_ (c := #[b8 q.fn, b16 q.at_, b16 q.many, b16 q.to_, .slice aw q.words.length cw, .slice ab q.bits.length cb]) (t := 31) (by simp)), cell_of_row _ _ _ _ _ _ (KB.out.at_ (c := #[b8 q.fn, b16 q.at_, b16 q.many, b16 q.to_, .slice aw q.words.length cw, .slice ab q.bits.length cb]) (t := 31) (by simp)), cell_of_row _ _ _ _ _ _ (KB.out.at_ (c := #[b8 q.fn, b16 q.at_, b16 q.many, b16 q.to_, .slice aw q.words.length cw, .slice ab q.bits.length cb]) (t := 31) (by simp)), cell_of_row _ _ _ _ _ _ (KB.out.at_ (c := #[b8 q.fn, b16 q.at_, b16 q.many, b16 q.to_, .slice aw q.words.length cw, .slice ab q.bits.length cb]) (t := 31) (by simp)), cell_of_row _ _ _ _ _ _ (KB.out.at_ (c := #[b8 q.fn, b16 q.at_, b16 q.many, b16 q.to_, .slice aw q.words.length cw, .slice ab q.bits.length cb]) (t := 31) (by simp)), cell_of_row _ _ _ _ _ _ (KB.out.at_ (c := #[b8 q.fn, b16 q.at_, b16 q.many, b16 q.to_, .slice aw q.words.length cw, .slice ab q.bits.length cb]) (t := 31) (by simp))⟩; have HOB := Lib.hid (HOA.out.on hbB); clear hbB KA HOA)
      | (revert KB; intro KB; go_at_call 38; (with_reducible refine (HPU.out none 0 none 0 _ (RepAt.nil HRN.out.1 HRN.out.2)).mono ?_); rintro e wC ⟨aB, cB, rfl, hSB, hbC, hxC⟩; have KC := Lib.hid (KB.out.on hbC); have hkC : Hold wC (w.heap.size + 1) w1.heap.size (.slice da n.coils.length dc) (.slice ja n.inputs.length jc) (.slice ka n.holding.length kc) (.slice xa n.words.length xc) (b8 q.fn) (b16 q.at_) (b16 q.many) (b16 q.to_) (.slice aw q.words.length cw) (.slice ab q.bits.length cb) := ⟨cell_of_row _ _ _ _ _ _ KC.out.m, cell_of_row _ _ _ _ _ _ KC.out.m, cell_of_row _ _ _ _ _ _ KC.out.m, cell_of_row _ _ _ _ _ _ KC.out.m, cell_of_row _ _ _ _ _ _ (KC.out.at_ (c := #[b8 q.fn, b16 q.at_, b16 q.many, b16 q.to_, .slice aw q.words.length cw, .slice ab q.bits.length cb]) (t := 31) (by simp)), cell_of_row _ _ _ _ _ _ (KC.out.at_ (c := #[b8 q.fn, b16 q.at_, b16 q.many, b16 q.to_, .slice aw q.words.length cw, .slice ab q.bits.length cb]) (t := 31) (by simp)), cell_of_row _ _ _ _ _ _ (KC.out.at_ (c := #[b8 q.fn, b16 q.at_, b16 q.many, b16 q.to_, .slice aw q.words.length cw, .slice ab q.bits.length cb]) (t := 31) (by simp)), cell_of_row _ _ _ _ _ _ (KC.out.at_ (c := #[b8 q.fn, b16 q.at_, b16 q.many, b16 q.to_, .slice aw q.words.length cw, .slice ab q.bits.length cb]) (t := 31) (by simp)), cell_of_row _ _ _ _ _ _ (KC.out.at_ (c := #[b8 q.fn, b16 q.at_, b16 q.many, b16 q.to_, .slice aw q.words.length cw, .slice ab q.bits.length cb]) (t := 31) (by simp)), cell_of_row _ _ _ _ _ _ (KC.out.at_ (c := #[b8 q.fn, b16 q.at_, b16 q.many, b16 q.to_, .slice aw q.words.length cw, .slice ab q.bits.length cb]) (t := 31) (by simp))⟩; obtain ⟨z0, z1, z2, z3, z4⟩ := quad_cells KC.out.r; have hne1 : w.heap.size + 1 ≠ w.heap.size + 1 + 1 := (by omega); have hne2 : w1.heap.size ≠ w.heap.size + 1 + 1 := (by have := HLT.out; omega); have hkD : Hold (set4 wC (w.heap.size + 1 + 1) (.slice ea n.coils.length ec) (.slice la n.inputs.length lc) (.slice na n.holding.length nc) (.slice ya n.words.length yc)) (w.heap.size + 1) w1.heap.size (.slice da n.coils.length dc) (.slice ja n.inputs.length jc) (.slice ka n.holding.length kc) (.slice xa n.words.length xc) (b8 q.fn) (b16 q.at_) (b16 q.many) (b16 q.to_) (.slice aw q.words.length cw) (.slice ab q.bits.length cb) := hkC.to (set4_other hne1) (set4_other hne2); have HFIN := Lib.hid (FinS.mk' (n := n) (q := ⟨ea, ec, la, lc, na, nc, ya, yc⟩) KC.out (HOB.out.on hbC) hSB); unfold set4 at hkD HFIN; clear hSB hbC hxC KB hne1 hne2))
  clear hk0 hk1 hkA hkB hkC hkD z0 z1 z2 z3 z4
  go_wp2_with fail
  exact bodyPost_ret (results_cell_row_tmp rfl _ _ (w.heap.size + 1 + 1) 28 _ (0, 0) _ rfl HFIN.out.r Try.underlying28 rfl (by kernel_rfl) _ rfl) rfl ⟨⟨ea, ec, la, lc, na, nc, ya, yc⟩, aB, cB, rfl, HFIN.out.me, HFIN.out.sl, HFIN.out.below⟩
end Go.Proofs.Ytamdpinfbadflaa.ModW
/- What Serve answers is right: plain facts. -/
namespace Go.Proofs.Ytamdpinfbadflaa.ModM
open AskM ReplyM ReplyW ModW
theorem rright_lens {r : Rep} (h : rrightN r = true) : r.words.length ≤ 1000000 ∧ r.bits.length ≤ 1000000 := by
  unfold rrightN at h
  cases hk : kindForN r with
  | none => rw [hk] at h; cases h
  | some k =>
    rw [hk] at h
    simp only at h
    unfold rightK at h
    rw [Bool.and_eq_true, decide_eq_true_eq] at h
    obtain ⟨hc, ho⟩ := h
    have hw := congrArg Rep.words ho
    have hb := congrArg Rep.bits ho
    cases k <;> simp [countK] at hc <;> simp only [onlyK, wrongN] at hw hb <;> constructor <;> first | omega | (rw [hw]; simp) | (rw [hb]; simp)
theorem wrong_ok (f x : UInt8) (hx : 1 ≤ x.toNat) (hx4 : x.toNat ≤ 4) : rrightN (wrongN f x) = true := by
  rw [wrong_right]
  simp
  omega
theorem pad_len (l : List Bool) : (padN l).length = (l.length + 7) / 8 * 8 := by
  unfold padN
  simp
  omega
theorem answer_right {s : Sp} {m : Me} {a : Req} (hc : checkN s a = 0) (hr : mrightN s m = true) : rrightN (answerM (writeM m a) a) = true := by
  obtain ⟨hra, -⟩ := check_zero hc
  have hF := rfits_of hc hr
  obtain ⟨h1, h2, -⟩ := right_ones hra
  generalize writeM m a = M at hF
  unfold answerM
  cases he : echoN a with
  | some q => exact (echo_right hra he).1
  | none =>
    obtain ⟨F, hrow, -⟩ := right_row hra
    unfold echoN at he
    rw [if_neg (by rw [hra]; simp)] at he
    have hB : ∀ k, brN a.fn.toNat = some k → wrN a.fn.toNat = none → kindOfN a.fn.toNat = some .bitsR → rrightN ⟨a.fn, 0, readB M (brN a.fn.toNat) a.at_.toNat a.many.toNat, readW M (wrN a.fn.toNat) a.at_.toNat a.many.toNat, 0, 0⟩ = true := fun k hk hn hkk => by
      have h3 := hF.bits k hk
      have h4 := h1 (by rw [hk]; rfl)
      rw [hk, hn]
      show rrightN ⟨a.fn, 0, padN (((M.bits k).drop a.at_.toNat).take a.many.toNat), [], 0, 0⟩ = true
      rw [rright_bits hkk, pad_len]
      have h5 : (((M.bits k).drop a.at_.toNat).take a.many.toNat).length = a.many.toNat := by simp; omega
      rw [h5]
      simp
      omega
    have hW : ∀ k, wrN a.fn.toNat = some k → brN a.fn.toNat = none → kindOfN a.fn.toNat = some .wordsR → rrightN ⟨a.fn, 0, readB M (brN a.fn.toNat) a.at_.toNat a.many.toNat, readW M (wrN a.fn.toNat) a.at_.toNat a.many.toNat, 0, 0⟩ = true := fun k hk hn hkk => by
      have h3 := hF.regs k hk
      have h4 := h2 (by rw [hk]; rfl)
      rw [hk, hn]
      show rrightN ⟨a.fn, 0, [], ((M.regs k).drop a.at_.toNat).take a.many.toNat, 0, 0⟩ = true
      rw [rright_words hkk]
      have h5 : (((M.regs k).drop a.at_.toNat).take a.many.toNat).length = a.many.toNat := by simp; omega
      rw [h5]
      simp
      omega
    show rrightN ⟨a.fn, 0, readB M (brN a.fn.toNat) a.at_.toNat a.many.toNat, readW M (wrN a.fn.toNat) a.at_.toNat a.many.toNat, 0, 0⟩ = true
    rcases rowN_cases hrow with ⟨hc, -⟩ | ⟨hc, -⟩ | ⟨hc, -⟩ | ⟨hc, -⟩ | ⟨hc, -⟩ | ⟨hc, -⟩ | ⟨hc, -⟩
    · rcases hc with hc | hc
      · exact hB 0 (by rw [hc]; rfl) (by rw [hc]; rfl) (by rw [hc]; rfl)
      · exact hB 1 (by rw [hc]; rfl) (by rw [hc]; rfl) (by rw [hc]; rfl)
    · rcases hc with hc | hc
      · exact hW 2 (by rw [hc]; rfl) (by rw [hc]; rfl) (by rw [hc]; rfl)
      · exact hW 3 (by rw [hc]; rfl) (by rw [hc]; rfl) (by rw [hc]; rfl)
    · rw [hc] at he; simp at he
    · rw [hc] at he; simp at he
    · rw [hc] at he; simp at he
    · rw [hc] at he; simp at he
    · exact hW 2 (by rw [hc]; rfl) (by rw [hc]; rfl) (by rw [hc]; rfl)
theorem do_reply (s : Sp) (m : Me) (a : Req) : rrightN (doN s m a).2 = true := by
  unfold doN
  have hc := check_le s a
  by_cases h0 : checkN s a ≠ 0
  · rw [if_pos h0]
    have : (UInt8.ofNat (checkN s a)).toNat = checkN s a := by simp; omega
    exact wrong_ok a.fn (UInt8.ofNat (checkN s a)) (by omega) (by omega)
  · rw [if_neg h0]
    by_cases hr : mrightN s m = false
    · rw [if_pos hr]; exact wrong_ok a.fn 4 (by decide) (by decide)
    · rw [if_neg hr]
      exact answer_right (s := s) (m := m) (a := a) (by omega) (by simpa using hr)
theorem look_le (l : List UInt8) : (lookN l).2 ≤ 3 := by
  unfold lookN
  split
  · simp
  · split
    · simp
    · split <;> simp
theorem look_small (l : List UInt8) : (lookN l).1.words.length ≤ 65535 ∧ (lookN l).1.bits.length ≤ 65535 := by
  unfold lookN
  split
  · simp [bare]
  · split
    · simp [bare]
    · split
      · rename_i a ha
        obtain ⟨F, hrow, hf, -⟩ := bytesN_some.1 (parse_iff.1 ha)
        obtain ⟨h1, h2, h3, h4, h5, h6, -⟩ := fit_facts hf
        rcases rowN_cases hrow with ⟨-, rfl⟩ | ⟨-, rfl⟩ | ⟨-, rfl⟩ | ⟨-, rfl⟩ | ⟨-, rfl⟩ | ⟨-, rfl⟩ | ⟨-, rfl⟩ <;> simp only at h4 h6 <;> constructor <;> simp only <;> omega
      · simp [bare]
theorem serve_right (s : Sp) (m : Me) (l : List UInt8) : ∃ b, rbytesN (serveN s m l).2 = some b ∧ rparseN b = some (serveN s m l).2 ∧ (serveN s m l).2.words.length ≤ 1000000 ∧ (serveN s m l).2.bits.length ≤ 1000000 := by
  have h : rrightN (serveN s m l).2 = true := by
    unfold serveN
    have h3 := look_le l
    by_cases h0 : (lookN l).2 ≠ 0
    · rw [if_pos h0]
      have : (UInt8.ofNat (lookN l).2).toNat = (lookN l).2 := by simp; omega
      exact wrong_ok (lookN l).1.fn (UInt8.ofNat (lookN l).2) (by omega) (by omega)
    · rw [if_neg h0]
      exact do_reply s m _
  cases hb : rbytesN (serveN s m l).2 with
  | none => rw [rrightN_false.2 hb] at h; cases h
  | some b => exact ⟨b, rfl, rparse_bytes hb, rright_lens h⟩
end Go.Proofs.Ytamdpinfbadflaa.ModM
/- Bytes are served: the walk. -/
open Go.RowKit
namespace Go.Proofs.Ytamdpinfbadflaa.ModW
open AskM ReplyM ModM Mem AskW ReplyW

/-- A law's boxes of a space and a memory, and what has been laid behind. -/
structure SX (w W : World) (S M : Array Value) (l : List (Nat × Array Value × TypeId)) : Prop where
  below : Below w.heap.size w W
  s : W.heap[w.heap.size]? = some (.cells S 24 (0, 0))
  m : W.heap[w.heap.size + 1]? = some (.cells M 28 (0, 0))
  has : Has W l
theorem SX.on {w W W' : World} {S M : Array Value} {l : List (Nat × Array Value × TypeId)} (h : SX w W S M l) (hb : Below W.heap.size W W') : SX w W' S M l :=
  ⟨h.below.trans (hb.mono h.below.size), row_cell h.s hb, row_cell h.m hb, h.has.on hb⟩
theorem SX.one {w W : World} {S M : Array Value} {l : List (Nat × Array Value × TypeId)} (h : SX w W S M l) (c : Array Value) (t : TypeId) : SX w (W.alloc (.cells c t)) S M ((W.heap.size, c, t) :: l) := by
  have h' := h.on ((Below.refl W.heap.size W).alloc (Nat.le_refl _) (.cells c t))
  exact ⟨h'.below, h'.s, h'.m, h'.has.cons (heap_alloc_new W _)⟩
theorem SX.two {w W : World} {S M : Array Value} {l : List (Nat × Array Value × TypeId)} (h : SX w W S M l) (c1 c2 : Array Value) (t1 t2 : TypeId) : SX w ((W.alloc (.cells c1 t1)).alloc (.cells c2 t2)) S M ((W.heap.size + 1, c2, t2) :: (W.heap.size, c1, t1) :: l) := by
  have h' := (h.one c1 t1).one c2 t2
  have e : (W.alloc (.cells c1 t1)).heap.size = W.heap.size + 1 := by simp
  rwa [e] at h'
theorem SX.new (w : World) (S M : Array Value) : SX w ((w.alloc (.cells S 24)).alloc (.cells M 28)) S M [] :=
  ⟨below_two w _ _, (Below.heap_alloc _ _ _ (by simp)).trans (heap_alloc_new w _), at_one w _ _, fun x hx => by cases hx⟩
theorem SX.at_ {w W : World} {S M : Array Value} {l : List (Nat × Array Value × TypeId)} (h : SX w W S M l) {g : Nat} {c : Array Value} {t : TypeId} (hx : (g, c, t) ∈ l) : W.heap[g]? = some (.cells c t (0, 0)) := h.has _ hx
/-- What region 9 holds. -/
abbrev Hold9 (W : World) (t4 t7 t9 t11 : Nat) (m0 m1 m2 m3 n0 n1 n2 n3 r0 r1 r2 r3 r4 r5 f : Value) : Prop :=
  W.cell? ⟨t4, 0, none⟩ = some m0 ∧ W.cell? ⟨t4, 1, none⟩ = some m1 ∧ W.cell? ⟨t4, 2, none⟩ = some m2 ∧ W.cell? ⟨t4, 3, none⟩ = some m3 ∧
  W.cell? ⟨t7, 0, none⟩ = some n0 ∧ W.cell? ⟨t7, 1, none⟩ = some n1 ∧ W.cell? ⟨t7, 2, none⟩ = some n2 ∧ W.cell? ⟨t7, 3, none⟩ = some n3 ∧
  W.cell? ⟨t9, 0, none⟩ = some r0 ∧ W.cell? ⟨t9, 1, none⟩ = some r1 ∧ W.cell? ⟨t9, 2, none⟩ = some r2 ∧ W.cell? ⟨t9, 3, none⟩ = some r3 ∧ W.cell? ⟨t9, 4, none⟩ = some r4 ∧ W.cell? ⟨t9, 5, none⟩ = some r5 ∧
  W.cell? ⟨t11, 0, none⟩ = some f

set_option maxRecDepth 100000 in
set_option maxHeartbeats 4000000 in
theorem ModelServes_walk (s : Sp) (p : Pl) (m : Me) (p2 : Pl) (a : Option Addr) (n0 c : Nat) (l : List UInt8) (w : World) (hS : SpAt w w.heap.size s p) (hM : MeAt w w.heap.size m p2) (hL : Sl b8 w w.heap.size a n0 c l) :
    Calls Try.prog 7 #[spV s p, meV m p2, .slice a n0 c] w fun e w' => e = .returned (.bool true) ∧ Below w.heap.size w w' := by
  obtain rfl := hL.len
  have hlen := len_le hL
  have hlsm := look_small l
  have hk3 := look_le l
  have HLI := Lib.hid (fun W (h : Below w.heap.size w W) => Light_any s p m p2 W (hS.on h) (hM.on h))
  have HAW := Lib.hid awake_any
  have HME := Lib.hid (fun W (h : Below w.heap.size w W) => hM.on h)
  obtain ⟨b, hb1, hb2, hrw, hrb⟩ := serve_right s m l
  have HSE := Lib.hid (fun W (h : Below w.heap.size w W) (hm : MeSmall m) => Serve_any s p m p2 a l.length c l b W (hS.on h) (hM.on h) hm (sl_on hL h) hlsm.1 hlsm.2 hb1 hrw hrb)
  have hLO := fun W (h : Below w.heap.size w W) => Look_any a l.length c l W (sl_on hL h)
  have hq : serveN s m l = if (lookN l).2 ≠ 0 then (m, wrongN (lookN l).1.fn (UInt8.ofNat (lookN l).2)) else doN s m (lookN l).1 := rfl
  obtain ⟨⟨q, k⟩, hlk⟩ : ∃ x, lookN l = x := ⟨_, rfl⟩
  rw [hlk] at hLO hq hk3 hlsm
  obtain ⟨⟨n, r⟩, hnr⟩ : ∃ x, serveN s m l = x := ⟨_, rfl⟩
  rw [hnr] at hq hb2 HSE
  have HLO := Lib.hid hLO
  have HQ := Lib.hid hq
  have HRP := Lib.hid (fun aB cB W (hs : Sl b8 W W.heap.size aB b.length cB b) => (by
    have h := RParse_any aB b.length cB b W hs
    rw [hb2] at h
    exact h : Calls Try.prog 20 #[.slice aB b.length cB] W (RParsed (some r) W)))
  have HDO := Lib.hid (fun aw cw ab cb W (h : Below w.heap.size w W) (hm : MeSmall m) (hA : AskAt W W.heap.size q aw cw ab cb) => Do_at s p m p2 q aw cw ab cb W (hS.on h) (hM.on h) hm hA hlsm.1 hlsm.2)
  have HK3 := Lib.hid hk3
  obtain ⟨ca, cc, ia, ic, ha, hc, wa, wc⟩ := p
  obtain ⟨da, dc, ja, jc, ka, kc, xa, xc⟩ := p2
  have hsx := SX.new w (#[.slice ca s.coils.length cc, .slice ia s.inputs.length ic, .slice ha s.holding.length hc, .slice wa s.words.length wc]) (#[.slice da m.coils.length dc, .slice ja m.inputs.length jc, .slice ka m.holding.length kc, .slice xa m.words.length xc])
  clear hS hM hL hLO hq hb1 hb2 hrw hrb hlk hnr hlsm hk3
  go_enter Try.func7, Try.ntmps7
  go_wp2_with fail
  generalize (w.alloc (.cells #[.slice ca s.coils.length cc, .slice ia s.inputs.length ic, .slice ha s.holding.length hc, .slice wa s.words.length wc] 24)).alloc (.cells #[.slice da m.coils.length dc, .slice ja m.inputs.length jc, .slice ka m.holding.length kc, .slice xa m.words.length xc] 28) = W0 at *
  have K0 := Lib.hid hsx
  clear hsx
  refine (HLI.out W0 K0.out.below).mono ?_
  rintro e w1 ⟨rr, rfl, hlight, hb⟩
  have HML := Lib.hid hlight
  have K1 := Lib.hid (K0.out.on hb)
  clear hb K0 HLI hlight
  cases rr
  case false =>
    go_wp2_with fail
    refine (HAW.out _).mono ?_
    rintro e w2 ⟨rfl, hb⟩
    have K2 := Lib.hid (K1.out.on hb)
    go_wp2_with fail
    go_ret
    exact ⟨rfl, K2.out.below⟩
  have HLT := Lib.hid (HML.out rfl)
  clear HML
  by_cases h1 : 300 < l.length
  · have t1 : decide ((300 : Int) < (l.length : Int)) = true := by simp; omega
    clear h1
    go_wp2_with fail
    refine (HAW.out _).mono ?_
    rintro e w2 ⟨rfl, hb⟩
    have K2 := Lib.hid (K1.out.on hb)
    go_wp2_with fail
    go_ret
    exact ⟨rfl, K2.out.below⟩
  have t1 : decide ((300 : Int) < (l.length : Int)) = false := by simp; omega
  clear h1
  have s0 : w1.cell? ⟨w.heap.size, 0, none⟩ = some (.slice ca s.coils.length cc) := cell_of_row _ _ _ _ _ _ K1.out.s
  have s1 : w1.cell? ⟨w.heap.size, 1, none⟩ = some (.slice ia s.inputs.length ic) := cell_of_row _ _ _ _ _ _ K1.out.s
  have s2 : w1.cell? ⟨w.heap.size, 2, none⟩ = some (.slice ha s.holding.length hc) := cell_of_row _ _ _ _ _ _ K1.out.s
  have s3 : w1.cell? ⟨w.heap.size, 3, none⟩ = some (.slice wa s.words.length wc) := cell_of_row _ _ _ _ _ _ K1.out.s
  have g0 : w1.cell? ⟨w.heap.size + 1, 0, none⟩ = some (.slice da m.coils.length dc) := cell_of_row _ _ _ _ _ _ K1.out.m
  have g1 : w1.cell? ⟨w.heap.size + 1, 1, none⟩ = some (.slice ja m.inputs.length jc) := cell_of_row _ _ _ _ _ _ K1.out.m
  have g2 : w1.cell? ⟨w.heap.size + 1, 2, none⟩ = some (.slice ka m.holding.length kc) := cell_of_row _ _ _ _ _ _ K1.out.m
  have g3 : w1.cell? ⟨w.heap.size + 1, 3, none⟩ = some (.slice xa m.words.length xc) := cell_of_row _ _ _ _ _ _ K1.out.m
  go_wp2_with fail
  refine (HSE.out w1 K1.out.below HLT.out.small).mono ?_
  rintro e w2 ⟨⟨ea, ec, la, lc, na, nc, ya, yc⟩, aB, cB, rfl, hmN, hSB, hb⟩
  have K2 := Lib.hid ((K1.out.on hb).one (#[.slice ea n.coils.length ec, .slice la n.inputs.length lc, .slice na n.holding.length nc, .slice ya n.words.length yc]) 28)
  have hb3 := (Below.refl w2.heap.size w2).alloc (Nat.le_refl _) (.cells #[.slice ea n.coils.length ec, .slice la n.inputs.length lc, .slice na n.holding.length nc, .slice ya n.words.length yc] 28)
  have HN2 := Lib.hid (And.intro (hmN.on hb3) (HRP.out aB cB (w2.alloc (.cells #[.slice ea n.coils.length ec, .slice la n.inputs.length lc, .slice na n.holding.length nc, .slice ya n.words.length yc] 28)) ((hSB.below hb3 (Nat.le_refl _)).more hb3.size)))
  clear hb K1 HSE HRP hmN hSB hb3 s0 s1 s2 s3 g0 g1 g2 g3
  go_wp2_with fail
  generalize (w2.alloc (.cells #[.slice ea n.coils.length ec, .slice la n.inputs.length lc, .slice na n.holding.length nc, .slice ya n.words.length yc] 28)) = Z2 at *
  refine (HN2.out.2).mono ?_
  rintro e w3 ⟨aw, cw, ab, cb, rfl, hR, hb, hx⟩
  have K3 := Lib.hid ((K2.out.on hb).one (#[b8 r.fn, b8 r.ex, .slice ab r.bits.length cb, .slice aw r.words.length cw, b16 r.at_, b16 r.many]) 36)
  have hb3 := (Below.refl w3.heap.size w3).alloc (Nat.le_refl _) (.cells #[b8 r.fn, b8 r.ex, .slice ab r.bits.length cb, .slice aw r.words.length cw, b16 r.at_, b16 r.many] 36)
  have HN3 := Lib.hid (And.intro ((HN2.out.1.on hb).on hb3) (hR.below hb3))
  clear hb K2 HN2 hR hb3 hx
  go_wp2_with fail
  generalize (w3.alloc (.cells #[b8 r.fn, b8 r.ex, .slice ab r.bits.length cb, .slice aw r.words.length cw, b16 r.at_, b16 r.many] 36)) = Z3 at *
  refine (HLO.out Z3 K3.out.below).mono ?_
  rintro e w4 ⟨aq, cq, bq, dq, rfl, hA, hb, hx⟩
  have K4 := Lib.hid ((K3.out.on hb).one (#[b8 q.fn, b16 q.at_, b16 q.many, b16 q.to_, .slice aq q.words.length cq, .slice bq q.bits.length dq]) 31)
  have hb3 := (Below.refl w4.heap.size w4).alloc (Nat.le_refl _) (.cells #[b8 q.fn, b16 q.at_, b16 q.many, b16 q.to_, .slice aq q.words.length cq, .slice bq q.bits.length dq] 31)
  have HN4 := Lib.hid (And.intro ((HN3.out.1.on hb).on hb3) ((HN3.out.2.below hb).below hb3))
  have HA4 : Hid (AskAt (w4.alloc (.cells #[b8 q.fn, b16 q.at_, b16 q.many, b16 q.to_, .slice aq q.words.length cq, .slice bq q.bits.length dq] 31)) (w4.alloc (.cells #[b8 q.fn, b16 q.at_, b16 q.many, b16 q.to_, .slice aq q.words.length cq, .slice bq q.bits.length dq] 31)).heap.size q aq cq bq dq) := Lib.hid ⟨(hA.words.below hb3 (Nat.le_refl _)).more hb3.size, (hA.bits.below hb3 (Nat.le_refl _)).more hb3.size⟩
  clear hb K3 HN3 HLO hA hb3 hx
  by_cases hk : k = 0
  · subst hk
    have HQ2 : Hid ((n, r) = doN s m q) := Lib.hid (by have h := HQ.out; rwa [if_neg (by simp)] at h)
    clear HQ HK3
    have e0 : ((0 : Int) != 0) = false := rfl
    have s0 : (w4.alloc (.cells #[b8 q.fn, b16 q.at_, b16 q.many, b16 q.to_, .slice aq q.words.length cq, .slice bq q.bits.length dq] 31)).cell? ⟨w.heap.size, 0, none⟩ = some (.slice ca s.coils.length cc) := cell_of_row _ _ _ _ _ _ K4.out.s
    have s1 : (w4.alloc (.cells #[b8 q.fn, b16 q.at_, b16 q.many, b16 q.to_, .slice aq q.words.length cq, .slice bq q.bits.length dq] 31)).cell? ⟨w.heap.size, 1, none⟩ = some (.slice ia s.inputs.length ic) := cell_of_row _ _ _ _ _ _ K4.out.s
    have s2 : (w4.alloc (.cells #[b8 q.fn, b16 q.at_, b16 q.many, b16 q.to_, .slice aq q.words.length cq, .slice bq q.bits.length dq] 31)).cell? ⟨w.heap.size, 2, none⟩ = some (.slice ha s.holding.length hc) := cell_of_row _ _ _ _ _ _ K4.out.s
    have s3 : (w4.alloc (.cells #[b8 q.fn, b16 q.at_, b16 q.many, b16 q.to_, .slice aq q.words.length cq, .slice bq q.bits.length dq] 31)).cell? ⟨w.heap.size, 3, none⟩ = some (.slice wa s.words.length wc) := cell_of_row _ _ _ _ _ _ K4.out.s
    have g0 : (w4.alloc (.cells #[b8 q.fn, b16 q.at_, b16 q.many, b16 q.to_, .slice aq q.words.length cq, .slice bq q.bits.length dq] 31)).cell? ⟨w.heap.size + 1, 0, none⟩ = some (.slice da m.coils.length dc) := cell_of_row _ _ _ _ _ _ K4.out.m
    have g1 : (w4.alloc (.cells #[b8 q.fn, b16 q.at_, b16 q.many, b16 q.to_, .slice aq q.words.length cq, .slice bq q.bits.length dq] 31)).cell? ⟨w.heap.size + 1, 1, none⟩ = some (.slice ja m.inputs.length jc) := cell_of_row _ _ _ _ _ _ K4.out.m
    have g2 : (w4.alloc (.cells #[b8 q.fn, b16 q.at_, b16 q.many, b16 q.to_, .slice aq q.words.length cq, .slice bq q.bits.length dq] 31)).cell? ⟨w.heap.size + 1, 2, none⟩ = some (.slice ka m.holding.length kc) := cell_of_row _ _ _ _ _ _ K4.out.m
    have g3 : (w4.alloc (.cells #[b8 q.fn, b16 q.at_, b16 q.many, b16 q.to_, .slice aq q.words.length cq, .slice bq q.bits.length dq] 31)).cell? ⟨w.heap.size + 1, 3, none⟩ = some (.slice xa m.words.length xc) := cell_of_row _ _ _ _ _ _ K4.out.m
    have q0 : (w4.alloc (.cells #[b8 q.fn, b16 q.at_, b16 q.many, b16 q.to_, .slice aq q.words.length cq, .slice bq q.bits.length dq] 31)).cell? ⟨w4.heap.size, 0, none⟩ = some (b8 q.fn) := cell_of_row _ _ _ _ _ _ (K4.out.at_ (c := #[b8 q.fn, b16 q.at_, b16 q.many, b16 q.to_, .slice aq q.words.length cq, .slice bq q.bits.length dq]) (t := 31) (by simp))
    have q1 : (w4.alloc (.cells #[b8 q.fn, b16 q.at_, b16 q.many, b16 q.to_, .slice aq q.words.length cq, .slice bq q.bits.length dq] 31)).cell? ⟨w4.heap.size, 1, none⟩ = some (b16 q.at_) := cell_of_row _ _ _ _ _ _ (K4.out.at_ (c := #[b8 q.fn, b16 q.at_, b16 q.many, b16 q.to_, .slice aq q.words.length cq, .slice bq q.bits.length dq]) (t := 31) (by simp))
    have q2 : (w4.alloc (.cells #[b8 q.fn, b16 q.at_, b16 q.many, b16 q.to_, .slice aq q.words.length cq, .slice bq q.bits.length dq] 31)).cell? ⟨w4.heap.size, 2, none⟩ = some (b16 q.many) := cell_of_row _ _ _ _ _ _ (K4.out.at_ (c := #[b8 q.fn, b16 q.at_, b16 q.many, b16 q.to_, .slice aq q.words.length cq, .slice bq q.bits.length dq]) (t := 31) (by simp))
    have q3 : (w4.alloc (.cells #[b8 q.fn, b16 q.at_, b16 q.many, b16 q.to_, .slice aq q.words.length cq, .slice bq q.bits.length dq] 31)).cell? ⟨w4.heap.size, 3, none⟩ = some (b16 q.to_) := cell_of_row _ _ _ _ _ _ (K4.out.at_ (c := #[b8 q.fn, b16 q.at_, b16 q.many, b16 q.to_, .slice aq q.words.length cq, .slice bq q.bits.length dq]) (t := 31) (by simp))
    have q4 : (w4.alloc (.cells #[b8 q.fn, b16 q.at_, b16 q.many, b16 q.to_, .slice aq q.words.length cq, .slice bq q.bits.length dq] 31)).cell? ⟨w4.heap.size, 4, none⟩ = some (.slice aq q.words.length cq) := cell_of_row _ _ _ _ _ _ (K4.out.at_ (c := #[b8 q.fn, b16 q.at_, b16 q.many, b16 q.to_, .slice aq q.words.length cq, .slice bq q.bits.length dq]) (t := 31) (by simp))
    have q5 : (w4.alloc (.cells #[b8 q.fn, b16 q.at_, b16 q.many, b16 q.to_, .slice aq q.words.length cq, .slice bq q.bits.length dq] 31)).cell? ⟨w4.heap.size, 5, none⟩ = some (.slice bq q.bits.length dq) := cell_of_row _ _ _ _ _ _ (K4.out.at_ (c := #[b8 q.fn, b16 q.at_, b16 q.many, b16 q.to_, .slice aq q.words.length cq, .slice bq q.bits.length dq]) (t := 31) (by simp))
    go_wp2_with fail
    generalize (w4.alloc (.cells #[b8 q.fn, b16 q.at_, b16 q.many, b16 q.to_, .slice aq q.words.length cq, .slice bq q.bits.length dq] 31)) = Z4 at *
    refine (HDO.out aq cq bq dq Z4 K4.out.below HLT.out.small HA4.out).mono ?_
    rw [← HQ2.out]
    rintro e w5 ⟨⟨eo, uo, lo', vo, no, xo, yo, zo⟩, b1, e1, b2, e2, rfl, hmO, hrO, hb⟩
    have K5 := Lib.hid ((K4.out.on hb).two (#[.slice eo n.coils.length uo, .slice lo' n.inputs.length vo, .slice no n.holding.length xo, .slice yo n.words.length zo]) (#[b8 r.fn, b8 r.ex, .slice b2 r.bits.length e2, .slice b1 r.words.length e1, b16 r.at_, b16 r.many]) 28 36)
    have hb3 := below_two w5 (.cells #[.slice eo n.coils.length uo, .slice lo' n.inputs.length vo, .slice no n.holding.length xo, .slice yo n.words.length zo] 28) (.cells #[b8 r.fn, b8 r.ex, .slice b2 r.bits.length e2, .slice b1 r.words.length e1, b16 r.at_, b16 r.many] 36)
    have HSM := Lib.hid (by
      have h := same_any n n ⟨ea, ec, la, lc, na, nc, ya, yc⟩ ⟨eo, uo, lo', vo, no, xo, yo, zo⟩ ((w5.alloc (.cells #[.slice eo n.coils.length uo, .slice lo' n.inputs.length vo, .slice no n.holding.length xo, .slice yo n.words.length zo] 28)).alloc (.cells #[b8 r.fn, b8 r.ex, .slice b2 r.bits.length e2, .slice b1 r.words.length e1, b16 r.at_, b16 r.many] 36)) ((HN4.out.1.on hb).on hb3) (hmO.on hb3)
      rw [decide_eq_true rfl] at h
      exact h)
    have HRS := Lib.hid (fun W (hW : Below ((w5.alloc (.cells #[.slice eo n.coils.length uo, .slice lo' n.inputs.length vo, .slice no n.holding.length xo, .slice yo n.words.length zo] 28)).alloc (.cells #[b8 r.fn, b8 r.ex, .slice b2 r.bits.length e2, .slice b1 r.words.length e1, b16 r.at_, b16 r.many] 36)).heap.size ((w5.alloc (.cells #[.slice eo n.coils.length uo, .slice lo' n.inputs.length vo, .slice no n.holding.length xo, .slice yo n.words.length zo] 28)).alloc (.cells #[b8 r.fn, b8 r.ex, .slice b2 r.bits.length e2, .slice b1 r.words.length e1, b16 r.at_, b16 r.many] 36)) W) => (by
      have h := RSame_any r r aw cw ab cb b1 e1 b2 e2 W (((HN4.out.2.below hb).below hb3).below hW) ((hrO.below hb3).below hW)
      rw [decide_eq_true rfl] at h
      exact h : Calls Try.prog 18 #[repV r aw cw ab cb, repV r b1 e1 b2 e2] W (Says (.bool true) W)))
    clear hb K4 HDO HN4 HA4 hmO hrO hb3 s0 s1 s2 s3 g0 g1 g2 g3 q0 q1 q2 q3 q4 q5
    have o0 : ((w5.alloc (.cells #[.slice eo n.coils.length uo, .slice lo' n.inputs.length vo, .slice no n.holding.length xo, .slice yo n.words.length zo] 28)).alloc (.cells #[b8 r.fn, b8 r.ex, .slice b2 r.bits.length e2, .slice b1 r.words.length e1, b16 r.at_, b16 r.many] 36)).cell? ⟨w2.heap.size, 0, none⟩ = some (.slice ea n.coils.length ec) := cell_of_row _ _ _ _ _ _ (K5.out.at_ (c := #[.slice ea n.coils.length ec, .slice la n.inputs.length lc, .slice na n.holding.length nc, .slice ya n.words.length yc]) (t := 28) (by simp))
    have o1 : ((w5.alloc (.cells #[.slice eo n.coils.length uo, .slice lo' n.inputs.length vo, .slice no n.holding.length xo, .slice yo n.words.length zo] 28)).alloc (.cells #[b8 r.fn, b8 r.ex, .slice b2 r.bits.length e2, .slice b1 r.words.length e1, b16 r.at_, b16 r.many] 36)).cell? ⟨w2.heap.size, 1, none⟩ = some (.slice la n.inputs.length lc) := cell_of_row _ _ _ _ _ _ (K5.out.at_ (c := #[.slice ea n.coils.length ec, .slice la n.inputs.length lc, .slice na n.holding.length nc, .slice ya n.words.length yc]) (t := 28) (by simp))
    have o2 : ((w5.alloc (.cells #[.slice eo n.coils.length uo, .slice lo' n.inputs.length vo, .slice no n.holding.length xo, .slice yo n.words.length zo] 28)).alloc (.cells #[b8 r.fn, b8 r.ex, .slice b2 r.bits.length e2, .slice b1 r.words.length e1, b16 r.at_, b16 r.many] 36)).cell? ⟨w2.heap.size, 2, none⟩ = some (.slice na n.holding.length nc) := cell_of_row _ _ _ _ _ _ (K5.out.at_ (c := #[.slice ea n.coils.length ec, .slice la n.inputs.length lc, .slice na n.holding.length nc, .slice ya n.words.length yc]) (t := 28) (by simp))
    have o3 : ((w5.alloc (.cells #[.slice eo n.coils.length uo, .slice lo' n.inputs.length vo, .slice no n.holding.length xo, .slice yo n.words.length zo] 28)).alloc (.cells #[b8 r.fn, b8 r.ex, .slice b2 r.bits.length e2, .slice b1 r.words.length e1, b16 r.at_, b16 r.many] 36)).cell? ⟨w2.heap.size, 3, none⟩ = some (.slice ya n.words.length yc) := cell_of_row _ _ _ _ _ _ (K5.out.at_ (c := #[.slice ea n.coils.length ec, .slice la n.inputs.length lc, .slice na n.holding.length nc, .slice ya n.words.length yc]) (t := 28) (by simp))
    have j0 : ((w5.alloc (.cells #[.slice eo n.coils.length uo, .slice lo' n.inputs.length vo, .slice no n.holding.length xo, .slice yo n.words.length zo] 28)).alloc (.cells #[b8 r.fn, b8 r.ex, .slice b2 r.bits.length e2, .slice b1 r.words.length e1, b16 r.at_, b16 r.many] 36)).cell? ⟨w5.heap.size, 0, none⟩ = some (.slice eo n.coils.length uo) := cell_of_row _ _ _ _ _ _ (K5.out.at_ (c := #[.slice eo n.coils.length uo, .slice lo' n.inputs.length vo, .slice no n.holding.length xo, .slice yo n.words.length zo]) (t := 28) (by simp))
    have j1 : ((w5.alloc (.cells #[.slice eo n.coils.length uo, .slice lo' n.inputs.length vo, .slice no n.holding.length xo, .slice yo n.words.length zo] 28)).alloc (.cells #[b8 r.fn, b8 r.ex, .slice b2 r.bits.length e2, .slice b1 r.words.length e1, b16 r.at_, b16 r.many] 36)).cell? ⟨w5.heap.size, 1, none⟩ = some (.slice lo' n.inputs.length vo) := cell_of_row _ _ _ _ _ _ (K5.out.at_ (c := #[.slice eo n.coils.length uo, .slice lo' n.inputs.length vo, .slice no n.holding.length xo, .slice yo n.words.length zo]) (t := 28) (by simp))
    have j2 : ((w5.alloc (.cells #[.slice eo n.coils.length uo, .slice lo' n.inputs.length vo, .slice no n.holding.length xo, .slice yo n.words.length zo] 28)).alloc (.cells #[b8 r.fn, b8 r.ex, .slice b2 r.bits.length e2, .slice b1 r.words.length e1, b16 r.at_, b16 r.many] 36)).cell? ⟨w5.heap.size, 2, none⟩ = some (.slice no n.holding.length xo) := cell_of_row _ _ _ _ _ _ (K5.out.at_ (c := #[.slice eo n.coils.length uo, .slice lo' n.inputs.length vo, .slice no n.holding.length xo, .slice yo n.words.length zo]) (t := 28) (by simp))
    have j3 : ((w5.alloc (.cells #[.slice eo n.coils.length uo, .slice lo' n.inputs.length vo, .slice no n.holding.length xo, .slice yo n.words.length zo] 28)).alloc (.cells #[b8 r.fn, b8 r.ex, .slice b2 r.bits.length e2, .slice b1 r.words.length e1, b16 r.at_, b16 r.many] 36)).cell? ⟨w5.heap.size, 3, none⟩ = some (.slice yo n.words.length zo) := cell_of_row _ _ _ _ _ _ (K5.out.at_ (c := #[.slice eo n.coils.length uo, .slice lo' n.inputs.length vo, .slice no n.holding.length xo, .slice yo n.words.length zo]) (t := 28) (by simp))
    go_wp2_with fail
    refine (HSM.out).mono ?_
    rintro e w6 ⟨rfl, hb⟩
    have K6 := Lib.hid (K5.out.on hb)
    have HRS6 := Lib.hid (HRS.out w6 hb)
    clear hb HRS K5
    have x0 : w6.cell? ⟨w3.heap.size, 0, none⟩ = some (b8 r.fn) := cell_of_row _ _ _ _ _ _ (K6.out.at_ (c := #[b8 r.fn, b8 r.ex, .slice ab r.bits.length cb, .slice aw r.words.length cw, b16 r.at_, b16 r.many]) (t := 36) (by simp))
    have x1 : w6.cell? ⟨w3.heap.size, 1, none⟩ = some (b8 r.ex) := cell_of_row _ _ _ _ _ _ (K6.out.at_ (c := #[b8 r.fn, b8 r.ex, .slice ab r.bits.length cb, .slice aw r.words.length cw, b16 r.at_, b16 r.many]) (t := 36) (by simp))
    have x2 : w6.cell? ⟨w3.heap.size, 2, none⟩ = some (.slice ab r.bits.length cb) := cell_of_row _ _ _ _ _ _ (K6.out.at_ (c := #[b8 r.fn, b8 r.ex, .slice ab r.bits.length cb, .slice aw r.words.length cw, b16 r.at_, b16 r.many]) (t := 36) (by simp))
    have x3 : w6.cell? ⟨w3.heap.size, 3, none⟩ = some (.slice aw r.words.length cw) := cell_of_row _ _ _ _ _ _ (K6.out.at_ (c := #[b8 r.fn, b8 r.ex, .slice ab r.bits.length cb, .slice aw r.words.length cw, b16 r.at_, b16 r.many]) (t := 36) (by simp))
    have x4 : w6.cell? ⟨w3.heap.size, 4, none⟩ = some (b16 r.at_) := cell_of_row _ _ _ _ _ _ (K6.out.at_ (c := #[b8 r.fn, b8 r.ex, .slice ab r.bits.length cb, .slice aw r.words.length cw, b16 r.at_, b16 r.many]) (t := 36) (by simp))
    have x5 : w6.cell? ⟨w3.heap.size, 5, none⟩ = some (b16 r.many) := cell_of_row _ _ _ _ _ _ (K6.out.at_ (c := #[b8 r.fn, b8 r.ex, .slice ab r.bits.length cb, .slice aw r.words.length cw, b16 r.at_, b16 r.many]) (t := 36) (by simp))
    have y0 : w6.cell? ⟨w5.heap.size + 1, 0, none⟩ = some (b8 r.fn) := cell_of_row _ _ _ _ _ _ (K6.out.at_ (c := #[b8 r.fn, b8 r.ex, .slice b2 r.bits.length e2, .slice b1 r.words.length e1, b16 r.at_, b16 r.many]) (t := 36) (by simp))
    have y1 : w6.cell? ⟨w5.heap.size + 1, 1, none⟩ = some (b8 r.ex) := cell_of_row _ _ _ _ _ _ (K6.out.at_ (c := #[b8 r.fn, b8 r.ex, .slice b2 r.bits.length e2, .slice b1 r.words.length e1, b16 r.at_, b16 r.many]) (t := 36) (by simp))
    have y2 : w6.cell? ⟨w5.heap.size + 1, 2, none⟩ = some (.slice b2 r.bits.length e2) := cell_of_row _ _ _ _ _ _ (K6.out.at_ (c := #[b8 r.fn, b8 r.ex, .slice b2 r.bits.length e2, .slice b1 r.words.length e1, b16 r.at_, b16 r.many]) (t := 36) (by simp))
    have y3 : w6.cell? ⟨w5.heap.size + 1, 3, none⟩ = some (.slice b1 r.words.length e1) := cell_of_row _ _ _ _ _ _ (K6.out.at_ (c := #[b8 r.fn, b8 r.ex, .slice b2 r.bits.length e2, .slice b1 r.words.length e1, b16 r.at_, b16 r.many]) (t := 36) (by simp))
    have y4 : w6.cell? ⟨w5.heap.size + 1, 4, none⟩ = some (b16 r.at_) := cell_of_row _ _ _ _ _ _ (K6.out.at_ (c := #[b8 r.fn, b8 r.ex, .slice b2 r.bits.length e2, .slice b1 r.words.length e1, b16 r.at_, b16 r.many]) (t := 36) (by simp))
    have y5 : w6.cell? ⟨w5.heap.size + 1, 5, none⟩ = some (b16 r.many) := cell_of_row _ _ _ _ _ _ (K6.out.at_ (c := #[b8 r.fn, b8 r.ex, .slice b2 r.bits.length e2, .slice b1 r.words.length e1, b16 r.at_, b16 r.many]) (t := 36) (by simp))
    go_wp2_with fail
    refine (HRS6.out).mono ?_
    rintro e w7 ⟨rfl, hb⟩
    have K7 := Lib.hid (K6.out.on hb)
    go_wp2_with fail
    refine (HAW.out _).mono ?_
    rintro e w8 ⟨rfl, hb⟩
    have K8 := Lib.hid (K7.out.on hb)
    go_wp2_with fail
    go_ret
    exact ⟨rfl, K8.out.below⟩

  have e0 : ((k : Int) != 0) = true := by simp; omega
  have hk3 := HK3.out
  have HQ2 : Hid ((n, r) = (m, wrongN q.fn (UInt8.ofNat k))) := Lib.hid (by have h := HQ.out; rwa [if_pos hk] at h)
  have hn : n = m := congrArg Prod.fst HQ2.out
  have hr : r = wrongN q.fn (UInt8.ofNat k) := congrArg Prod.snd HQ2.out
  subst hn
  have HWR : Hid (∀ W, Calls Try.prog 22 #[b8 q.fn, .int .u8 (k : Int)] W (Says (repV r none 0 none 0) W)) := Lib.hid fun W => by
    have hx : (.int .u8 (k : Int) : Value) = b8 (UInt8.ofNat k) := by
      have : (UInt8.ofNat k).toNat = k := by simp; omega
      simp only [b8, this]
    rw [hx, hr]
    exact Wrong_any q.fn (UInt8.ofNat k) W
  have HRN : Hid (r.words = [] ∧ r.bits = []) := Lib.hid (by rw [hr]; exact ⟨rfl, rfl⟩)
  have HSM := Lib.hid (fun W (hW : Below (w4.alloc (.cells #[b8 q.fn, b16 q.at_, b16 q.many, b16 q.to_, .slice aq q.words.length cq, .slice bq q.bits.length dq] 31)).heap.size (w4.alloc (.cells #[b8 q.fn, b16 q.at_, b16 q.many, b16 q.to_, .slice aq q.words.length cq, .slice bq q.bits.length dq] 31)) W) => (by
    have h := same_any n n ⟨ea, ec, la, lc, na, nc, ya, yc⟩ ⟨da, dc, ja, jc, ka, kc, xa, xc⟩ W (HN4.out.1.on hW) (HME.out W (K4.out.on hW).below)
    rw [decide_eq_true rfl] at h
    exact h : Calls Try.prog 13 #[meV n ⟨ea, ec, la, lc, na, nc, ya, yc⟩, meV n ⟨da, dc, ja, jc, ka, kc, xa, xc⟩] W (Says (.bool true) W)))
  have HRS := Lib.hid (fun W (hW : Below (w4.alloc (.cells #[b8 q.fn, b16 q.at_, b16 q.many, b16 q.to_, .slice aq q.words.length cq, .slice bq q.bits.length dq] 31)).heap.size (w4.alloc (.cells #[b8 q.fn, b16 q.at_, b16 q.many, b16 q.to_, .slice aq q.words.length cq, .slice bq q.bits.length dq] 31)) W) => (by
    have h := RSame_any r r aw cw ab cb none 0 none 0 W (HN4.out.2.below hW) (RepAt.nil HRN.out.1 HRN.out.2)
    rw [decide_eq_true rfl] at h
    exact h : Calls Try.prog 18 #[repV r aw cw ab cb, repV r none 0 none 0] W (Says (.bool true) W)))
  have hK : Hold9 (w4.alloc (.cells #[b8 q.fn, b16 q.at_, b16 q.many, b16 q.to_, .slice aq q.words.length cq, .slice bq q.bits.length dq] 31)) (w.heap.size + 1) w2.heap.size w3.heap.size w4.heap.size (.slice da n.coils.length dc) (.slice ja n.inputs.length jc) (.slice ka n.holding.length kc) (.slice xa n.words.length xc) (.slice ea n.coils.length ec) (.slice la n.inputs.length lc) (.slice na n.holding.length nc) (.slice ya n.words.length yc) (b8 r.fn) (b8 r.ex) (.slice ab r.bits.length cb) (.slice aw r.words.length cw) (b16 r.at_) (b16 r.many) (b8 q.fn) := ⟨cell_of_row _ _ _ _ _ _ K4.out.m, cell_of_row _ _ _ _ _ _ K4.out.m, cell_of_row _ _ _ _ _ _ K4.out.m, cell_of_row _ _ _ _ _ _ K4.out.m, cell_of_row _ _ _ _ _ _ (K4.out.at_ (c := #[.slice ea n.coils.length ec, .slice la n.inputs.length lc, .slice na n.holding.length nc, .slice ya n.words.length yc]) (t := 28) (by simp)), cell_of_row _ _ _ _ _ _ (K4.out.at_ (c := #[.slice ea n.coils.length ec, .slice la n.inputs.length lc, .slice na n.holding.length nc, .slice ya n.words.length yc]) (t := 28) (by simp)), cell_of_row _ _ _ _ _ _ (K4.out.at_ (c := #[.slice ea n.coils.length ec, .slice la n.inputs.length lc, .slice na n.holding.length nc, .slice ya n.words.length yc]) (t := 28) (by simp)), cell_of_row _ _ _ _ _ _ (K4.out.at_ (c := #[.slice ea n.coils.length ec, .slice la n.inputs.length lc, .slice na n.holding.length nc, .slice ya n.words.length yc]) (t := 28) (by simp)), cell_of_row _ _ _ _ _ _ (K4.out.at_ (c := #[b8 r.fn, b8 r.ex, .slice ab r.bits.length cb, .slice aw r.words.length cw, b16 r.at_, b16 r.many]) (t := 36) (by simp)), cell_of_row _ _ _ _ _ _ (K4.out.at_ (c := #[b8 r.fn, b8 r.ex, .slice ab r.bits.length cb, .slice aw r.words.length cw, b16 r.at_, b16 r.many]) (t := 36) (by simp)), cell_of_row _ _ _ _ _ _ (K4.out.at_ (c := #[b8 r.fn, b8 r.ex, .slice ab r.bits.length cb, .slice aw r.words.length cw, b16 r.at_, b16 r.many]) (t := 36) (by simp)), cell_of_row _ _ _ _ _ _ (K4.out.at_ (c := #[b8 r.fn, b8 r.ex, .slice ab r.bits.length cb, .slice aw r.words.length cw, b16 r.at_, b16 r.many]) (t := 36) (by simp)), cell_of_row _ _ _ _ _ _ (K4.out.at_ (c := #[b8 r.fn, b8 r.ex, .slice ab r.bits.length cb, .slice aw r.words.length cw, b16 r.at_, b16 r.many]) (t := 36) (by simp)), cell_of_row _ _ _ _ _ _ (K4.out.at_ (c := #[b8 r.fn, b8 r.ex, .slice ab r.bits.length cb, .slice aw r.words.length cw, b16 r.at_, b16 r.many]) (t := 36) (by simp)), cell_of_row _ _ _ _ _ _ (K4.out.at_ (c := #[b8 q.fn, b16 q.at_, b16 q.many, b16 q.to_, .slice aq q.words.length cq, .slice bq q.bits.length dq]) (t := 31) (by simp))⟩
  clear HQ HQ2 HDO hk3 HK3 hk hr HA4 HN4 HME
  go_wp2_with fail
  generalize (w4.alloc (.cells #[b8 q.fn, b16 q.at_, b16 q.many, b16 q.to_, .slice aq q.words.length cq, .slice bq q.bits.length dq] 31)) = Z4 at *
  have HBD := Lib.hid (Below.refl Z4.heap.size Z4).drew
  have KD := Lib.hid (K4.out.on HBD.out)
  have hk0 := hK
  have hk1 : Hold9 Z4.drew (w.heap.size + 1) w2.heap.size w3.heap.size w4.heap.size (.slice da n.coils.length dc) (.slice ja n.inputs.length jc) (.slice ka n.holding.length kc) (.slice xa n.words.length xc) (.slice ea n.coils.length ec) (.slice la n.inputs.length lc) (.slice na n.holding.length nc) (.slice ya n.words.length yc) (b8 r.fn) (b8 r.ex) (.slice ab r.bits.length cb) (.slice aw r.words.length cw) (b16 r.at_) (b16 r.many) (b8 q.fn) := ⟨cell_of_row _ _ _ _ _ _ KD.out.m, cell_of_row _ _ _ _ _ _ KD.out.m, cell_of_row _ _ _ _ _ _ KD.out.m, cell_of_row _ _ _ _ _ _ KD.out.m, cell_of_row _ _ _ _ _ _ (KD.out.at_ (c := #[.slice ea n.coils.length ec, .slice la n.inputs.length lc, .slice na n.holding.length nc, .slice ya n.words.length yc]) (t := 28) (by simp)), cell_of_row _ _ _ _ _ _ (KD.out.at_ (c := #[.slice ea n.coils.length ec, .slice la n.inputs.length lc, .slice na n.holding.length nc, .slice ya n.words.length yc]) (t := 28) (by simp)), cell_of_row _ _ _ _ _ _ (KD.out.at_ (c := #[.slice ea n.coils.length ec, .slice la n.inputs.length lc, .slice na n.holding.length nc, .slice ya n.words.length yc]) (t := 28) (by simp)), cell_of_row _ _ _ _ _ _ (KD.out.at_ (c := #[.slice ea n.coils.length ec, .slice la n.inputs.length lc, .slice na n.holding.length nc, .slice ya n.words.length yc]) (t := 28) (by simp)), cell_of_row _ _ _ _ _ _ (KD.out.at_ (c := #[b8 r.fn, b8 r.ex, .slice ab r.bits.length cb, .slice aw r.words.length cw, b16 r.at_, b16 r.many]) (t := 36) (by simp)), cell_of_row _ _ _ _ _ _ (KD.out.at_ (c := #[b8 r.fn, b8 r.ex, .slice ab r.bits.length cb, .slice aw r.words.length cw, b16 r.at_, b16 r.many]) (t := 36) (by simp)), cell_of_row _ _ _ _ _ _ (KD.out.at_ (c := #[b8 r.fn, b8 r.ex, .slice ab r.bits.length cb, .slice aw r.words.length cw, b16 r.at_, b16 r.many]) (t := 36) (by simp)), cell_of_row _ _ _ _ _ _ (KD.out.at_ (c := #[b8 r.fn, b8 r.ex, .slice ab r.bits.length cb, .slice aw r.words.length cw, b16 r.at_, b16 r.many]) (t := 36) (by simp)), cell_of_row _ _ _ _ _ _ (KD.out.at_ (c := #[b8 r.fn, b8 r.ex, .slice ab r.bits.length cb, .slice aw r.words.length cw, b16 r.at_, b16 r.many]) (t := 36) (by simp)), cell_of_row _ _ _ _ _ _ (KD.out.at_ (c := #[b8 r.fn, b8 r.ex, .slice ab r.bits.length cb, .slice aw r.words.length cw, b16 r.at_, b16 r.many]) (t := 36) (by simp)), cell_of_row _ _ _ _ _ _ (KD.out.at_ (c := #[b8 q.fn, b16 q.at_, b16 q.many, b16 q.to_, .slice aq q.words.length cq, .slice bq q.bits.length dq]) (t := 31) (by simp))⟩
  clear hK
  go_region_held3 (fun w' => Hold9 w' (w.heap.size + 1) w2.heap.size w3.heap.size w4.heap.size (.slice da n.coils.length dc) (.slice ja n.inputs.length jc) (.slice ka n.holding.length kc) (.slice xa n.words.length xc) (.slice ea n.coils.length ec) (.slice la n.inputs.length lc) (.slice na n.holding.length nc) (.slice ya n.words.length yc) (b8 r.fn) (b8 r.ex) (.slice ab r.bits.length cb) (.slice aw r.words.length cw) (b16 r.at_) (b16 r.many) (b8 q.fn))
    (first
      | with_reducible exact hk0
      | with_reducible exact hk1
      | with_reducible exact hkA
      | with_reducible exact hkB
      | with_reducible exact hkC
      | with_reducible exact hkD
      | go_keep)
    (first
      | (revert KD; intro KD; go_at_call 13; (with_reducible refine (HSM.out _ HBD.out).mono ?_); rintro e wA ⟨rfl, hbA⟩; have KA := Lib.hid (KD.out.on hbA); have HBA := Lib.hid (HBD.out.trans (hbA.mono HBD.out.size)); have hkA : Hold9 wA (w.heap.size + 1) w2.heap.size w3.heap.size w4.heap.size (.slice da n.coils.length dc) (.slice ja n.inputs.length jc) (.slice ka n.holding.length kc) (.slice xa n.words.length xc) (.slice ea n.coils.length ec) (.slice la n.inputs.length lc) (.slice na n.holding.length nc) (.slice ya n.words.length yc) (b8 r.fn) (b8 r.ex) (.slice ab r.bits.length cb) (.slice aw r.words.length cw) (b16 r.at_) (b16 r.many) (b8 q.fn) := ⟨cell_of_row _ _ _ _ _ _ KA.out.m, cell_of_row _ _ _ _ _ _ KA.out.m, cell_of_row _ _ _ _ _ _ KA.out.m, cell_of_row _ _ _ _ _ _ KA.out.m, cell_of_row _ _ _ _ _ _ (KA.out.at_ (c := #[.slice ea n.coils.length ec, .slice la n.inputs.length lc, .slice na n.holding.length nc, .slice ya n.words.length yc]) (t := 28) (by simp)), cell_of_row _ _ _ _ _ _ (KA.out.at_ (c := #[.slice ea n.coils.length ec, .slice la n.inputs.length lc, .slice na n.holding.length nc, .slice ya n.words.length yc]) (t := 28) (by simp)), cell_of_row _ _ _ _ _ _ (KA.out.at_ (c := #[.slice ea n.coils.length ec, .slice la n.inputs.length lc, .slice na n.holding.length nc, .slice ya n.words.length yc]) (t := 28) (by simp)), cell_of_row _ _ _ _ _ _ (KA.out.at_ (c := #[.slice ea n.coils.length ec, .slice la n.inputs.length lc, .slice na n.holding.length nc, .slice ya n.words.length yc]) (t := 28) (by simp)), cell_of_row _ _ _ _ _ _ (KA.out.at_ (c := #[b8 r.fn, b8 r.ex, .slice ab r.bits.length cb, .slice aw r.words.length cw, b16 r.at_, b16 r.many]) (t := 36) (by simp)), cell_of_row _ _ _ _ _ _ (KA.out.at_ (c := #[b8 r.fn, b8 r.ex, .slice ab r.bits.length cb, .slice aw r.words.length cw, b16 r.at_, b16 r.many]) (t := 36) (by simp)), cell_of_row _ _ _ _ _ _ (KA.out.at_ (c := #[b8 r.fn, b8 r.ex, .slice ab r.bits.length cb, .slice aw r.words.length cw, b16 r.at_, b16 r.many]) (t := 36) (by simp)), cell_of_row _ _ _ _ _ _ (KA.out.at_ (c := #[b8 r.fn, b8 r.ex, .slice ab r.bits.length cb, .slice aw r.words.length cw, b16 r.at_, b16 r.many]) (t := 36) (by simp)), cell_of_row _ _ _ _ _ _ (KA.out.at_ (c := #[b8 r.fn, b8 r.ex, .slice ab r.bits.length cb, .slice aw r.words.length cw, b16 r.at_, b16 r.many]) (t := 36) (by simp)), cell_of_row _ _ _ _ _ _ (KA.out.at_ (c := #[b8 r.fn, b8 r.ex, .slice ab r.bits.length cb, .slice aw r.words.length cw, b16 r.at_, b16 r.many]) (t := 36) (by simp)), cell_of_row _ _ _ _ _ _ (KA.out.at_ (c := #[b8 q.fn, b16 q.at_, b16 q.many, b16 q.to_, .slice aq q.words.length cq, .slice bq q.bits.length dq]) (t := 31) (by simp))⟩; clear hbA KD)
      | (revert KA; intro KA; go_at_call 22; (with_reducible refine (HWR.out _).mono ?_); rintro e wB ⟨rfl, hbB⟩; have KB := Lib.hid (KA.out.on hbB); have HBB := Lib.hid (HBA.out.trans (hbB.mono HBA.out.size)); have hkB : Hold9 wB (w.heap.size + 1) w2.heap.size w3.heap.size w4.heap.size (.slice da n.coils.length dc) (.slice ja n.inputs.length jc) (.slice ka n.holding.length kc) (.slice xa n.words.length xc) (.slice ea n.coils.length ec) (.slice la n.inputs.length lc) (.slice na n.holding.length nc) (.slice ya n.words.length yc) (b8 r.fn) (b8 r.ex) (.slice ab r.bits.length cb) (.slice aw r.words.length cw) (b16 r.at_) (b16 r.many) (b8 q.fn) := ⟨cell_of_row _ _ _ _ _ _ KB.out.m, cell_of_row _ _ _ _ _ _ KB.out.m, cell_of_row _ _ _ _ _ _ KB.out.m, cell_of_row _ _ _ _ _ _ KB.out.m, cell_of_row _ _ _ _ _ _ (KB.out.at_ (c := #[.slice ea n.coils.length ec, .slice la n.inputs.length lc, .slice na n.holding.length nc, .slice ya n.words.length yc]) (t := 28) (by simp)), cell_of_row _ _ _ _ _ _ (KB.out.at_ (c := #[.slice ea n.coils.length ec, .slice la n.inputs.length lc, .slice na n.holding.length nc, .slice ya n.words.length yc]) (t := 28) (by simp)), cell_of_row _ _ _ _ _ _ (KB.out.at_ (c := #[.slice ea n.coils.length ec, .slice la n.inputs.length lc, .slice na n.holding.length nc, .slice ya n.words.length yc]) (t := 28) (by simp)), cell_of_row _ _ _ _ _ _ (KB.out.at_ (c := #[.slice ea n.coils.length ec, .slice la n.inputs.length lc, .slice na n.holding.length nc, .slice ya n.words.length yc]) (t := 28) (by simp)), cell_of_row _ _ _ _ _ _ (KB.out.at_ (c := #[b8 r.fn, b8 r.ex, .slice ab r.bits.length cb, .slice aw r.words.length cw, b16 r.at_, b16 r.many]) (t := 36) (by simp)), cell_of_row _ _ _ _ _ _ (KB.out.at_ (c := #[b8 r.fn, b8 r.ex, .slice ab r.bits.length cb, .slice aw r.words.length cw, b16 r.at_, b16 r.many]) (t := 36) (by simp)), cell_of_row _ _ _ _ _ _ (KB.out.at_ (c := #[b8 r.fn, b8 r.ex, .slice ab r.bits.length cb, .slice aw r.words.length cw, b16 r.at_, b16 r.many]) (t := 36) (by simp)), cell_of_row _ _ _ _ _ _ (KB.out.at_ (c := #[b8 r.fn, b8 r.ex, .slice ab r.bits.length cb, .slice aw r.words.length cw, b16 r.at_, b16 r.many]) (t := 36) (by simp)), cell_of_row _ _ _ _ _ _ (KB.out.at_ (c := #[b8 r.fn, b8 r.ex, .slice ab r.bits.length cb, .slice aw r.words.length cw, b16 r.at_, b16 r.many]) (t := 36) (by simp)), cell_of_row _ _ _ _ _ _ (KB.out.at_ (c := #[b8 r.fn, b8 r.ex, .slice ab r.bits.length cb, .slice aw r.words.length cw, b16 r.at_, b16 r.many]) (t := 36) (by simp)), cell_of_row _ _ _ _ _ _ (KB.out.at_ (c := #[b8 q.fn, b16 q.at_, b16 q.many, b16 q.to_, .slice aq q.words.length cq, .slice bq q.bits.length dq]) (t := 31) (by simp))⟩; clear hbB KA)
      | (revert KB; intro KB; go_at_call 18; (with_reducible refine (HRS.out _ HBB.out).mono ?_); rintro e wC ⟨rfl, hbC⟩; have KC := Lib.hid (KB.out.on hbC); have hkC : Hold9 wC (w.heap.size + 1) w2.heap.size w3.heap.size w4.heap.size (.slice da n.coils.length dc) (.slice ja n.inputs.length jc) (.slice ka n.holding.length kc) (.slice xa n.words.length xc) (.slice ea n.coils.length ec) (.slice la n.inputs.length lc) (.slice na n.holding.length nc) (.slice ya n.words.length yc) (b8 r.fn) (b8 r.ex) (.slice ab r.bits.length cb) (.slice aw r.words.length cw) (b16 r.at_) (b16 r.many) (b8 q.fn) := ⟨cell_of_row _ _ _ _ _ _ KC.out.m, cell_of_row _ _ _ _ _ _ KC.out.m, cell_of_row _ _ _ _ _ _ KC.out.m, cell_of_row _ _ _ _ _ _ KC.out.m, cell_of_row _ _ _ _ _ _ (KC.out.at_ (c := #[.slice ea n.coils.length ec, .slice la n.inputs.length lc, .slice na n.holding.length nc, .slice ya n.words.length yc]) (t := 28) (by simp)), cell_of_row _ _ _ _ _ _ (KC.out.at_ (c := #[.slice ea n.coils.length ec, .slice la n.inputs.length lc, .slice na n.holding.length nc, .slice ya n.words.length yc]) (t := 28) (by simp)), cell_of_row _ _ _ _ _ _ (KC.out.at_ (c := #[.slice ea n.coils.length ec, .slice la n.inputs.length lc, .slice na n.holding.length nc, .slice ya n.words.length yc]) (t := 28) (by simp)), cell_of_row _ _ _ _ _ _ (KC.out.at_ (c := #[.slice ea n.coils.length ec, .slice la n.inputs.length lc, .slice na n.holding.length nc, .slice ya n.words.length yc]) (t := 28) (by simp)), cell_of_row _ _ _ _ _ _ (KC.out.at_ (c := #[b8 r.fn, b8 r.ex, .slice ab r.bits.length cb, .slice aw r.words.length cw, b16 r.at_, b16 r.many]) (t := 36) (by simp)), cell_of_row _ _ _ _ _ _ (KC.out.at_ (c := #[b8 r.fn, b8 r.ex, .slice ab r.bits.length cb, .slice aw r.words.length cw, b16 r.at_, b16 r.many]) (t := 36) (by simp)), cell_of_row _ _ _ _ _ _ (KC.out.at_ (c := #[b8 r.fn, b8 r.ex, .slice ab r.bits.length cb, .slice aw r.words.length cw, b16 r.at_, b16 r.many]) (t := 36) (by simp)), cell_of_row _ _ _ _ _ _ (KC.out.at_ (c := #[b8 r.fn, b8 r.ex, .slice ab r.bits.length cb, .slice aw r.words.length cw, b16 r.at_, b16 r.many]) (t := 36) (by simp)), cell_of_row _ _ _ _ _ _ (KC.out.at_ (c := #[b8 r.fn, b8 r.ex, .slice ab r.bits.length cb, .slice aw r.words.length cw, b16 r.at_, b16 r.many]) (t := 36) (by simp)), cell_of_row _ _ _ _ _ _ (KC.out.at_ (c := #[b8 r.fn, b8 r.ex, .slice ab r.bits.length cb, .slice aw r.words.length cw, b16 r.at_, b16 r.many]) (t := 36) (by simp)), cell_of_row _ _ _ _ _ _ (KC.out.at_ (c := #[b8 q.fn, b16 q.at_, b16 q.many, b16 q.to_, .slice aq q.words.length cq, .slice bq q.bits.length dq]) (t := 31) (by simp))⟩; clear hbC KB)
      | (revert KC; intro KC; go_at_call 10; (with_reducible refine (HAW.out _).mono ?_); rintro e wD ⟨rfl, hbD⟩; have KE := Lib.hid (KC.out.on hbD); have hkD : Hold9 wD (w.heap.size + 1) w2.heap.size w3.heap.size w4.heap.size (.slice da n.coils.length dc) (.slice ja n.inputs.length jc) (.slice ka n.holding.length kc) (.slice xa n.words.length xc) (.slice ea n.coils.length ec) (.slice la n.inputs.length lc) (.slice na n.holding.length nc) (.slice ya n.words.length yc) (b8 r.fn) (b8 r.ex) (.slice ab r.bits.length cb) (.slice aw r.words.length cw) (b16 r.at_) (b16 r.many) (b8 q.fn) := ⟨cell_of_row _ _ _ _ _ _ KE.out.m, cell_of_row _ _ _ _ _ _ KE.out.m, cell_of_row _ _ _ _ _ _ KE.out.m, cell_of_row _ _ _ _ _ _ KE.out.m, cell_of_row _ _ _ _ _ _ (KE.out.at_ (c := #[.slice ea n.coils.length ec, .slice la n.inputs.length lc, .slice na n.holding.length nc, .slice ya n.words.length yc]) (t := 28) (by simp)), cell_of_row _ _ _ _ _ _ (KE.out.at_ (c := #[.slice ea n.coils.length ec, .slice la n.inputs.length lc, .slice na n.holding.length nc, .slice ya n.words.length yc]) (t := 28) (by simp)), cell_of_row _ _ _ _ _ _ (KE.out.at_ (c := #[.slice ea n.coils.length ec, .slice la n.inputs.length lc, .slice na n.holding.length nc, .slice ya n.words.length yc]) (t := 28) (by simp)), cell_of_row _ _ _ _ _ _ (KE.out.at_ (c := #[.slice ea n.coils.length ec, .slice la n.inputs.length lc, .slice na n.holding.length nc, .slice ya n.words.length yc]) (t := 28) (by simp)), cell_of_row _ _ _ _ _ _ (KE.out.at_ (c := #[b8 r.fn, b8 r.ex, .slice ab r.bits.length cb, .slice aw r.words.length cw, b16 r.at_, b16 r.many]) (t := 36) (by simp)), cell_of_row _ _ _ _ _ _ (KE.out.at_ (c := #[b8 r.fn, b8 r.ex, .slice ab r.bits.length cb, .slice aw r.words.length cw, b16 r.at_, b16 r.many]) (t := 36) (by simp)), cell_of_row _ _ _ _ _ _ (KE.out.at_ (c := #[b8 r.fn, b8 r.ex, .slice ab r.bits.length cb, .slice aw r.words.length cw, b16 r.at_, b16 r.many]) (t := 36) (by simp)), cell_of_row _ _ _ _ _ _ (KE.out.at_ (c := #[b8 r.fn, b8 r.ex, .slice ab r.bits.length cb, .slice aw r.words.length cw, b16 r.at_, b16 r.many]) (t := 36) (by simp)), cell_of_row _ _ _ _ _ _ (KE.out.at_ (c := #[b8 r.fn, b8 r.ex, .slice ab r.bits.length cb, .slice aw r.words.length cw, b16 r.at_, b16 r.many]) (t := 36) (by simp)), cell_of_row _ _ _ _ _ _ (KE.out.at_ (c := #[b8 r.fn, b8 r.ex, .slice ab r.bits.length cb, .slice aw r.words.length cw, b16 r.at_, b16 r.many]) (t := 36) (by simp)), cell_of_row _ _ _ _ _ _ (KE.out.at_ (c := #[b8 q.fn, b16 q.at_, b16 q.many, b16 q.to_, .slice aq q.words.length cq, .slice bq q.bits.length dq]) (t := 31) (by simp))⟩; clear hbD KC))
  clear hk0 hk1 hkA hkB hkC hkD
  go_wp2_with fail
  go_ret
  exact ⟨rfl, KE.out.below⟩
end Go.Proofs.Ytamdpinfbadflaa.ModW
/- A space and a memory as a law's arguments. -/
open Go.RowKit Go.ChangeShapes Go.WideShapes Go.ChangeAt
namespace Go.Proofs.Ytamdpinfbadflaa.Mem
open AskM AskW ModM ModW

set_option maxRecDepth 100000 in
/-- A row of areas that is read. -/
theorem open_areas {H : Type} {enc : TypeId × Value → H} {W : World} {base fuel : Nat} {held : Bool} {v : Value} {y : DataW H × List MemPlace}
    (hf : DataW.trod enc Try.prog W base (fun _ => true) held fuel 22 [v] = some y) : ∃ a n c, ∃ es : List Ar, v = .slice a n c ∧ ArsAt W W.heap.size a n c es := by
  have hC : Try.prog.cellsOf 49 = 5 := by kernel_rfl
  have k0 : Try.prog.cellsOf 3 = 1 := by kernel_rfl
  have k1 : Try.prog.cellsOf 4 = 1 := by kernel_rfl
  rcases Go.Deep.open_slice Try.underlying22 hf with ⟨hcs, _⟩ | ⟨x, n, c, m, q, D, Pl, hcs, _, hl, hm, hmm, _, hi⟩
  · injection hcs with hcs _
    exact ⟨none, 0, 0, [], hcs, ArsAt.none_⟩
  · injection hcs with hcs _
    refine ⟨some x, n, c, ?_⟩
    have hmn : n ≤ m := by rw [hmm]; simp; exact hl
    have hel : ∀ i, i < n → ∃ e : Ar, ArOk e ∧ ∀ j v, (arCells e)[j]? = some v → W.cell? (x.add (i * 5 + j)) = some v := fun i hin => by
      obtain ⟨cs, hcell, ht⟩ := hi i (by omega)
      rw [hC] at hcell
      obtain ⟨_, hlen, hat⟩ := World.cells?_some hcell
      obtain ⟨xs, q2, _, _, _, hxl, hg⟩ := DataW.trod_struct Try.underlying49 ht
      match cs, hlen with
      | [v0, v1, v2, v3, v4], _ =>
      match xs, hxl with
      | [y0, y1, y2, y3, y4], _ =>
      have hadd2 : ∀ j, (x.add (i * 5)).add j = x.add (i * 5 + j) := fun j => by
        unfold Addr.add
        by_cases h1 : i * 5 = 0 <;> by_cases h2 : j = 0 <;> simp [h1, h2, Nat.add_assoc]
      have t0 : DataW.trod enc Try.prog W base (fun _ => true) held q2 3 [v0] = some y0 := by simpa [Value.cells, k0] using hg 0 _ rfl
      have t1 : DataW.trod enc Try.prog W base (fun _ => true) held q2 3 [v1] = some y1 := by simpa [Value.cells, k0] using hg 1 _ rfl
      have t2 : DataW.trod enc Try.prog W base (fun _ => true) held q2 4 [v2] = some y2 := by simpa [Value.cells, k1] using hg 2 _ rfl
      have t3 : DataW.trod enc Try.prog W base (fun _ => true) held q2 4 [v3] = some y3 := by simpa [Value.cells, k1] using hg 3 _ rfl
      have t4 : DataW.trod enc Try.prog W base (fun _ => true) held q2 4 [v4] = some y4 := by simpa [Value.cells, k1] using hg 4 _ rfl
      obtain ⟨z0, e0, _, w0⟩ := DataW.trod_int Try.underlying3 t0
      obtain ⟨z1, e1, _, w1⟩ := DataW.trod_int Try.underlying3 t1
      obtain ⟨z2, e2, _⟩ := DataW.trod_bool Try.underlying4 t2
      obtain ⟨z3, e3, _⟩ := DataW.trod_bool Try.underlying4 t3
      obtain ⟨z4, e4, _⟩ := DataW.trod_bool Try.underlying4 t4
      injection e0 with e0 _
      injection e1 with e1 _
      injection e2 with e2 _
      injection e3 with e3 _
      injection e4 with e4 _
      subst e0 e1 e2 e3 e4
      have b0 := bounds_i64 w0
      have b1 := bounds_i64 w1
      refine ⟨⟨z0, z1, z2, z3, z4⟩, ⟨b0.1, b0.2, b1.1, b1.2⟩, fun j v hj => ?_⟩
      have hjl : j < 5 := by have := (List.getElem?_eq_some_iff.1 hj).1; rwa [arCells_len] at this
      have h := hat j (by simpa using hjl)
      rw [hadd2] at h
      rw [h]
      match j, hj with
      | 0, hj => exact hj
      | 1, hj => exact hj
      | 2, hj => exact hj
      | 3, hj => exact hj
      | 4, hj => exact hj
    classical
    let E : Nat → Ar := fun i => if h : i < n then (hel i h).choose else zeroA
    have hE : ∀ i, i < n → ArOk (E i) ∧ ∀ j v, (arCells (E i))[j]? = some v → W.cell? (x.add (i * 5 + j)) = some v := fun i hin => by
      have h := (hel i hin).choose_spec
      simp only [E, dif_pos hin]
      exact h
    refine ⟨(List.range n).map E, hcs, by simp, hl, hm, fun e he => ?_, fun hn => ?_⟩
    · obtain ⟨k, hk, rfl⟩ := List.mem_map.1 he
      exact (hE k (by simpa using hk)).1
    · have h0 := (hE 0 hn).2 0 _ rfl
      obtain ⟨b, off, spot⟩ := x
      have hspot : spot = none := by simpa [Addr.add] using World.cell?_spot h0
      subst hspot
      have hadd : ∀ i, (⟨b, off, none⟩ : Addr).add i = ⟨b, off + i, none⟩ := fun i => by by_cases h0 : i = 0 <;> simp [Addr.add, h0]
      refine ⟨b, off, rfl, ?_, fun i e he j v hv => ?_⟩
      · have := block_lt_of_cell h0
        simpa [hadd] using this
      · rw [List.getElem?_map] at he
        obtain ⟨k, hk, rfl⟩ := Option.map_eq_some_iff.1 he
        obtain ⟨hki, hk2⟩ := List.getElem?_eq_some_iff.1 hk
        simp at hki hk2
        subst hk2
        have h := (hE i hki).2 j v hv
        rw [hadd] at h
        rwa [← Nat.add_assoc] at h
set_option maxRecDepth 100000 in
theorem open_space {H : Type} {enc : TypeId × Value → H} {W : World} {base b0 : Nat} {r : Reach} {held : Bool} {v : Value} {d : DataW H} {p : List MemPlace}
    (hv : Value.okWide Try.prog W r b0 24 v) (h : DataW.Trod enc Try.prog W base (fun _ => true) held 24 v d p) :
    ∃ (s : Sp) (q : Pl), v = spV s q ∧ SpAt W W.heap.size s q := by
  obtain ⟨cs, rfl, hsz⟩ := okWide_struct Try.underlying24 hv
  obtain ⟨fuel, hf⟩ := h
  obtain ⟨xs, n, _, _, _, hlen, hg⟩ := DataW.trod_struct Try.underlying24 hf
  have hc : Try.prog.cellsOf 24 = 4 := by kernel_rfl
  have k0 : Try.prog.cellsOf 22 = 1 := by kernel_rfl
  obtain ⟨l⟩ := cs
  match l, hsz.trans hc with
  | [c0, c1, c2, c3], _ =>
    match xs, hlen with
    | [y0, y1, y2, y3], _ =>
      have h0 : DataW.trod enc Try.prog W base (fun _ => true) held n 22 [c0] = some y0 := by simpa [Value.cells, k0] using hg 0 _ rfl
      have h1 : DataW.trod enc Try.prog W base (fun _ => true) held n 22 [c1] = some y1 := by simpa [Value.cells, k0] using hg 1 _ rfl
      have h2 : DataW.trod enc Try.prog W base (fun _ => true) held n 22 [c2] = some y2 := by simpa [Value.cells, k0] using hg 2 _ rfl
      have h3 : DataW.trod enc Try.prog W base (fun _ => true) held n 22 [c3] = some y3 := by simpa [Value.cells, k0] using hg 3 _ rfl
      obtain ⟨a0, n0, m0, l0, rfl, s0⟩ := open_areas h0
      obtain ⟨a1, n1, m1, l1, rfl, s1⟩ := open_areas h1
      obtain ⟨a2, n2, m2, l2, rfl, s2⟩ := open_areas h2
      obtain ⟨a3, n3, m3, l3, rfl, s3⟩ := open_areas h3
      obtain rfl := s0.len
      obtain rfl := s1.len
      obtain rfl := s2.len
      obtain rfl := s3.len
      exact ⟨⟨l0, l1, l2, l3⟩, ⟨a0, m0, a1, m1, a2, m2, a3, m3⟩, rfl, s0, s1, s2, s3⟩
set_option maxRecDepth 100000 in
theorem open_mem {H : Type} {enc : TypeId × Value → H} {W : World} {base b0 : Nat} {r : Reach} {held : Bool} {v : Value} {d : DataW H} {p : List MemPlace}
    (hv : Value.okWide Try.prog W r b0 28 v) (h : DataW.Trod enc Try.prog W base (fun _ => true) held 28 v d p) :
    ∃ (m : Me) (q : Pl), v = meV m q ∧ MeAt W W.heap.size m q := by
  obtain ⟨cs, rfl, hsz⟩ := okWide_struct Try.underlying28 hv
  obtain ⟨fuel, hf⟩ := h
  obtain ⟨xs, n, _, _, _, hlen, hg⟩ := DataW.trod_struct Try.underlying28 hf
  have hc : Try.prog.cellsOf 28 = 4 := by kernel_rfl
  have k0 : Try.prog.cellsOf 25 = 1 := by kernel_rfl
  have k1 : Try.prog.cellsOf 26 = 1 := by kernel_rfl
  have k2 : Try.prog.cellsOf 4 = 1 := by kernel_rfl
  have k3 : Try.prog.cellsOf 29 = 1 := by kernel_rfl
  obtain ⟨l⟩ := cs
  match l, hsz.trans hc with
  | [c0, c1, c2, c3], _ =>
    match xs, hlen with
    | [y0, y1, y2, y3], _ =>
      have h0 : DataW.trod enc Try.prog W base (fun _ => true) held n 25 [c0] = some y0 := by simpa [Value.cells, k0] using hg 0 _ rfl
      have h1 : DataW.trod enc Try.prog W base (fun _ => true) held n 25 [c1] = some y1 := by simpa [Value.cells, k0] using hg 1 _ rfl
      have h2 : DataW.trod enc Try.prog W base (fun _ => true) held n 26 [c2] = some y2 := by simpa [Value.cells, k1] using hg 2 _ rfl
      have h3 : DataW.trod enc Try.prog W base (fun _ => true) held n 26 [c3] = some y3 := by simpa [Value.cells, k1] using hg 3 _ rfl
      obtain ⟨a0, n0, m0, l0, rfl, s0⟩ := open_bits Try.underlying25 Try.underlying4 k2 h0
      obtain ⟨a1, n1, m1, l1, rfl, s1⟩ := open_bits Try.underlying25 Try.underlying4 k2 h1
      obtain ⟨a2, n2, m2, l2, rfl, s2⟩ := open_w16 Try.underlying26 Try.underlying29 k3 h2
      obtain ⟨a3, n3, m3, l3, rfl, s3⟩ := open_w16 Try.underlying26 Try.underlying29 k3 h3
      obtain rfl := s0.len
      obtain rfl := s1.len
      obtain rfl := s2.len
      obtain rfl := s3.len
      exact ⟨⟨l0, l1, l2, l3⟩, ⟨a0, m0, a1, m1, a2, m2, a3, m3⟩, rfl, s0, s1, s2, s3⟩
end Go.Proofs.Ytamdpinfbadflaa.Mem
