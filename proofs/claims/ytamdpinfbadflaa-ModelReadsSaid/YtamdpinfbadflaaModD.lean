/- ModD: what was ModA, ModB, ModC, ModD. -/
import Derived.Test.YtamdpinfbadflaaChecked
import Derived.Test.YtamdpinfbadflaaMem
import Derived.Test.YtamdpinfbadflaaGrow
import Derived.Test.YtamdpinfbadflaaModReq
import Derived.Test.YtamdpinfbadflaaAskFit
import Derived.Deep.LoopGhost
import Derived.Laws.Cells
import Derived.Test.YtamdpinfbadflaaAskSame
import Derived.Deep.MidRow
/- Small parts of model: rows of areas, what has an address, predicates over areas, as contracts. -/
open Go.RowKit
namespace Go.Proofs.Ytamdpinfbadflaa.ModW
open AskM ReplyM ModM Mem AskW

abbrev arV (x : Ar) : Value := .agg #[.int .i64 x.at_, .int .i64 x.many, .bool x.read, .bool x.write, .bool x.whole]
def arCells (x : Ar) : List Value := [.int .i64 x.at_, .int .i64 x.many, .bool x.read, .bool x.write, .bool x.whole]
/-- The row at a, of n areas. -/
def ArsAt (w : World) (B : Nat) (a : Option Addr) (n c : Nat) (es : List Ar) : Prop :=
  es.length = n ∧ n ≤ c ∧ c ≤ maxLen ∧ (∀ e ∈ es, ArOk e) ∧ (0 < n → ∃ b off, a = some ⟨b, off, none⟩ ∧ b < B ∧ ∀ i e, es[i]? = some e → ∀ j v, (arCells e)[j]? = some v → w.cell? ⟨b, off + i * 5 + j, none⟩ = some v)
section
variable {w w' : World} {B B' n c : Nat} {a : Option Addr} {es : List Ar}
theorem ArsAt.len (h : ArsAt w B a n c es) : es.length = n := h.1
theorem ArsAt.big (h : ArsAt w B a n c es) : n ≤ 9223372036854775807 := by
  have h1 := h.2.1; have h2 := h.2.2.1; unfold maxLen at h2; omega
theorem ArsAt.ok (h : ArsAt w B a n c es) : ∀ e ∈ es, ArOk e := h.2.2.2.1
theorem ArsAt.keep (h : ArsAt w B a n c es) (hk : ∀ p : Addr, p.block < B → w'.cell? p = w.cell? p) : ArsAt w' B a n c es := by
  obtain ⟨h1, h2, h3, h5, h4⟩ := h
  refine ⟨h1, h2, h3, h5, fun hn => ?_⟩
  obtain ⟨b, off, e, hb, hc⟩ := h4 hn
  exact ⟨b, off, e, hb, fun i x hx j v hv => (hk ⟨b, _, none⟩ hb).trans (hc i x hx j v hv)⟩
theorem ArsAt.more (h : ArsAt w B a n c es) (hB : B ≤ B') : ArsAt w B' a n c es := by
  obtain ⟨h1, h2, h3, h5, h4⟩ := h
  refine ⟨h1, h2, h3, h5, fun hn => ?_⟩
  obtain ⟨b, off, e, hb, hc⟩ := h4 hn
  exact ⟨b, off, e, Nat.lt_of_lt_of_le hb hB, hc⟩
theorem ArsAt.below (h : ArsAt w B a n c es) (hb : Below B' w w') (hB : B ≤ B') : ArsAt w' B a n c es := h.keep fun _ hp => hb.cell (by omega)
theorem ArsAt.on (h : ArsAt w w.heap.size a n c es) (hb : Below w.heap.size w w') : ArsAt w' w'.heap.size a n c es := (h.below hb (Nat.le_refl _)).more hb.size
theorem ArsAt.none_ : ArsAt w B none 0 0 [] := ⟨rfl, Nat.le_refl _, by unfold maxLen; omega, fun _ h => (by cases h), fun h => absurd h (by omega)⟩
theorem ArsAt.norm (h : ArsAt w B a n c es) : ArsAt w B a es.length c es := by
  have := h.1
  subst this
  exact h
theorem ArsAt.at_ (h : ArsAt w B a n c es) {k : Nat} (hk : k < n) : ∃ b off e, a = some ⟨b, off, none⟩ ∧ b < B ∧ es[k]? = some e ∧ e ∈ es ∧ ArOk e ∧ w.cell? ⟨b, off + k * 5, none⟩ = some (.int .i64 e.at_) ∧
    w.cell? ⟨b, off + k * 5 + 1, none⟩ = some (.int .i64 e.many) ∧ w.cell? ⟨b, off + k * 5 + 2, none⟩ = some (.bool e.read) ∧ w.cell? ⟨b, off + k * 5 + 3, none⟩ = some (.bool e.write) ∧ w.cell? ⟨b, off + k * 5 + 4, none⟩ = some (.bool e.whole) := by
  obtain ⟨h1, h2, h3, h5, h4⟩ := h
  obtain ⟨b, off, e, hb, hc⟩ := h4 (by omega)
  have hx : es[k]? = some (es[k]'(by omega)) := List.getElem?_eq_getElem (by omega)
  have hm := List.mem_of_getElem? hx
  have hq := hc k _ hx
  exact ⟨b, off, _, e, hb, hx, hm, h5 _ hm, hq 0 _ rfl, hq 1 _ rfl, hq 2 _ rfl, hq 3 _ rfl, hq 4 _ rfl⟩
end

/-- What is asked of a predicate over areas: it may lay blocks of its own. -/
def PredB (g : Nat) (lb : Array Value) (p : Ar → Bool) (w : World) : Prop :=
  ∀ (W : World) (x : Ar), ArOk x → Below w.heap.size w W → Calls Try.prog g (#[arV x] ++ lb) W fun e w' => e = .returned (.bool (p x)) ∧ Below w.heap.size w w'

theorem any_take_snoc {es : List Ar} {p : Ar → Bool} {k : Nat} {e : Ar} (he : es[k]? = some e) (hp : p e = false) (h : (es.take k).any p = false) : (es.take (k + 1)).any p = false := by
  rw [List.take_add_one, he, List.any_append, h]
  simp [hp]
theorem any_mem {es : List Ar} {p : Ar → Bool} {k : Nat} {e : Ar} (he : es[k]? = some e) (hp : p e = true) : es.any p = true :=
  List.any_eq_true.2 ⟨e, List.mem_of_getElem? he, hp⟩
def Idx (b : Bool) (w : World) (e : Ending) (w' : World) : Prop := ∃ z : Int, e = .returned (.int .i64 z) ∧ decide (0 ≤ z) = b ∧ -1 ≤ z ∧ z ≤ 9223372036854775807 ∧ Below w.heap.size w w'
theorem Idx.mk {b : Bool} {w w' : World} {z : Int} (h : decide (0 ≤ z) = b) (h1 : -1 ≤ z) (h2 : z ≤ 9223372036854775807) (hb : Below w.heap.size w w') : Idx b w (.returned (.int .i64 z)) w' := ⟨z, rfl, h, h1, h2, hb⟩

set_option maxHeartbeats 200000 in
theorem IndexFunc_any (g : Nat) (lb : Array Value) (p : Ar → Bool) (eg : ∀ args w, (callFunc g args).run Try.prog w = .ok (.enter g args) w) (a : Option Addr) (n c : Nat) (es : List Ar) (w : World)
    (hE : ArsAt w w.heap.size a n c es) (hp : PredB g lb p w) :
    Calls Try.prog 55 #[.slice a n c, .func (.func g) #[] lb] w (Idx (es.any p) w) := by
  have hbig := hE.big
  have hlen := hE.len
  have HE := Lib.hid hE
  clear hE
  go_enter Try.func55, Try.ntmps55
  go_wp2
  go_loopg [5, 8] n (fun gg _ s8 wr => ∃ kk : Nat, kk ≤ n ∧ n - kk ≤ gg ∧ s8 = .int .i64 kk ∧ Aside (Below w.heap.size w wr) ∧ Aside ((es.take kk).any p = false))
  case atStart => exact ⟨0, Nat.zero_le _, by omega, rfl, Below.refl _ w, (by show Aside _; exact rfl)⟩
  case round =>
    obtain ⟨kk, hkk, hg, rfl, BW, A⟩ := hrel
    by_cases hlt : kk < n
    · have hltz : (kk : Int) < (n : Int) := by omega
      obtain ⟨b, off, x, rfl, hb, hx, -, hok, c0, c1, c2, c3, c4⟩ := (HE.out.below BW.out (Nat.le_refl _)).at_ hlt
      have hcall := hp wr x hok BW.out
      have HX := Lib.hid hx
      clear hp hx hlen
      obtain ⟨xa, xm, xr, xw, xh⟩ := x
      simp only at c0 c1 c2 c3 c4
      cases hq : p ⟨xa, xm, xr, xw, xh⟩ with
      | true =>
        rw [hq] at hcall
        have HQ := Lib.hid hq
        clear hq
        go_wp2_with fail
        refine hcall.mono ?_
        rintro e w' ⟨rfl, hb'⟩
        go_wp2_with fail
        go_ret
        exact Idx.mk (by rw [any_mem HX.out HQ.out]; simp) (by omega) (by omega) hb'
      | false =>
        rw [hq] at hcall
        have HQ := Lib.hid hq
        clear hq
        go_wp2_with fail
        refine hcall.mono ?_
        rintro e w' ⟨rfl, hb'⟩
        go_wp2_with fail
        go_roundg (n - (kk + 1))
        case measure => omega
        case rel =>
          exact ⟨kk + 1, by omega, by omega, by go_num, hb', (show Aside _ from any_take_snoc HX.out HQ.out A.out)⟩
    · have hltz : ¬ (kk : Int) < (n : Int) := by omega
      have : kk = n := by omega
      subst this
      have hA := A.out
      rw [List.take_of_length_le (by omega)] at hA
      have HA := Lib.hid hA
      clear hA
      go_wp2
      go_ret
      exact Idx.mk (by rw [HA.out]; rfl) (by omega) (by omega) BW.out
theorem ContainsFunc_any (g : Nat) (lb : Array Value) (p : Ar → Bool) (eg : ∀ args w, (callFunc g args).run Try.prog w = .ok (.enter g args) w) (a : Option Addr) (n c : Nat) (es : List Ar) (w : World)
    (hE : ArsAt w w.heap.size a n c es) (hp : PredB g lb p w) :
    Calls Try.prog 31 #[.slice a n c, .func (.func g) #[] lb] w (Says (.bool (es.any p)) w) := by
  have HI := Lib.hid (IndexFunc_any g lb p eg a n c es w hE hp)
  clear eg hE hp
  go_enter Try.func31, Try.ntmps31
  go_wp2_with fail
  refine HI.out.mono ?_
  rintro e w' ⟨z, rfl, hz, h1, h2, hb⟩
  have HZ := Lib.hid hz
  clear hz
  go_wp2_with fail
  go_ret
  exact says_bool HZ.out hb

/-! ### Predicates -/
theorem written_any (w : World) : PredB 32 #[] writtenA w := by
  intro W x hx hb
  obtain ⟨xa, xm, xr, xw, xh⟩ := x
  have HB := Lib.hid hb
  clear hb
  go_enter Try.func32, Try.ntmps32
  go_wp2_with fail
  go_ret
  exact ⟨rfl, HB.out.alloc HB.out.size _⟩
theorem unread_bits (w : World) : PredB 65 #[] readsA w := by
  intro W x hx hb
  obtain ⟨xa, xm, xr, xw, xh⟩ := x
  have HB := Lib.hid hb
  clear hb
  go_enter Try.func65, Try.ntmps65
  go_wp2_with fail
  go_ret
  exact ⟨rfl, HB.out.alloc HB.out.size _⟩
theorem unread_regs (w : World) : PredB 67 #[] readsA w := by
  intro W x hx hb
  obtain ⟨xa, xm, xr, xw, xh⟩ := x
  have HB := Lib.hid hb
  clear hb
  go_enter Try.func67, Try.ntmps67
  go_wp2_with fail
  go_ret
  exact ⟨rfl, HB.out.alloc HB.out.size _⟩
end Go.Proofs.Ytamdpinfbadflaa.ModW
/- What has an address; predicates that capture; areas that may be. -/
open Go.RowKit
namespace Go.Proofs.Ytamdpinfbadflaa.ModW
open AskM ReplyM ModM Mem AskW

theorem wrap64 {z : Int} (h1 : -9223372036854775808 ≤ z) (h2 : z ≤ 9223372036854775807) : IntKind.i64.wrap z = z := by
  simp [IntKind.wrap, IntKind.bits, IntKind.signed]; omega
theorem wrap_sub {a i : Int} (ha1 : -9223372036854775808 ≤ a) (ha2 : a ≤ 9223372036854775807) (hi1 : 0 ≤ i) (hi2 : i ≤ 1000000) {m : Int} (hm1 : 0 < m) (hm2 : m ≤ 9223372036854775807) :
    decide (IntKind.u64.wrap (i - IntKind.u64.wrap a) < m) = (decide (a ≤ i) && decide (i - a < m)) := by
  have hu : ∀ z : Int, IntKind.u64.wrap z = z % 18446744073709551616 := fun z => by simp [IntKind.wrap, IntKind.bits, IntKind.signed]
  rw [hu, hu, Bool.eq_iff_iff]
  simp only [decide_eq_true_eq, Bool.and_eq_true]
  omega
set_option maxHeartbeats 1000000 in
theorem has_any (x : Ar) (hx : ArOk x) (i : Nat) (hi : i ≤ 1000000) (w : World) :
    Calls Try.prog 76 #[arV x, .int .i64 (i : Int)] w (Says (.bool (hasN x i)) w) := by
  obtain ⟨xa, xm, xr, xw, xh⟩ := x
  obtain ⟨a1, a2, m1, m2⟩ := hx
  simp only at a1 a2 m1 m2
  by_cases h : 0 < xm
  · have hd := wrap_sub a1 a2 (i := (i : Int)) (by omega) (by omega) h m2
    have HV : Hid (hasN ⟨xa, xm, xr, xw, xh⟩ i = decide (IntKind.u64.wrap ((i : Int) - IntKind.u64.wrap xa) < xm)) := Lib.hid (by rw [hd]; unfold hasN; simp [h])
    clear hd
    go_enter Try.func76, Try.ntmps76
    go_wp2_with fail
    go_ret
    exact says_bool HV.out.symm ((Below.refl _ _).alloc (Nat.le_refl _) _)
  · have HV : Hid (hasN ⟨xa, xm, xr, xw, xh⟩ i = false) := Lib.hid (by unfold hasN; simp [h])
    go_enter Try.func76, Try.ntmps76
    go_wp2_with fail
    go_ret
    exact says_bool HV.out.symm ((Below.refl _ _).alloc (Nat.le_refl _) _)

theorem unwritten_bits (b1 b2 : Nat) (at_ n : Nat) (w : World) (hb1 : b1 < w.heap.size) (hb2 : b2 < w.heap.size) (h1 : w.cell? ⟨b1, 0, none⟩ = some (.int .i64 (at_ : Int))) (h2 : w.cell? ⟨b2, 0, none⟩ = some (.int .i64 (n : Int))) :
    PredB 68 #[.pointer (some ⟨b1, 0, none⟩), .pointer (some ⟨b2, 0, none⟩)] (writesA at_ n) w := by
  intro W x hx hb
  obtain ⟨xa, xm, xr, xw, xh⟩ := x
  have hc1 := (hb.cell (p := ⟨b1, 0, none⟩) hb1).trans h1
  have hc2 := (hb.cell (p := ⟨b2, 0, none⟩) hb2).trans h2
  have hl1 : b1 < W.heap.size := Nat.lt_of_lt_of_le hb1 hb.size
  have hl2 : b2 < W.heap.size := Nat.lt_of_lt_of_le hb2 hb.size
  have hn1 : b1 ≠ W.heap.size := by omega
  have hn2 : b2 ≠ W.heap.size := by omega
  have HB := Lib.hid hb
  clear hb h1 h2 hb1 hb2
  show Calls Try.prog _ #[arV _, .pointer (some ⟨b1, 0, none⟩), .pointer (some ⟨b2, 0, none⟩)] W _
  cases xw
  · go_enter Try.func68, Try.ntmps68
    go_wp2_with fail
    go_ret
    exact ⟨rfl, HB.out.alloc HB.out.size _⟩
  cases xh
  · go_enter Try.func68, Try.ntmps68
    go_wp2_with fail
    go_ret
    exact ⟨rfl, HB.out.alloc HB.out.size _⟩
  by_cases ha : xa = (at_ : Int)
  · subst ha
    have hd : ((at_ : Int) != (at_ : Int)) = false := by simp
    go_enter Try.func68, Try.ntmps68
    go_wp2_with fail
    go_ret
    exact ⟨ret_bool (by simp [writesA]), HB.out.alloc HB.out.size _⟩
  · have hd : (xa != (at_ : Int)) = true := by simpa using ha
    have HV : Hid (writesA at_ n ⟨xa, xm, xr, true, true⟩ = true) := Lib.hid (by simp [writesA, ha])
    clear ha
    go_enter Try.func68, Try.ntmps68
    go_wp2_with fail
    go_ret
    exact ⟨ret_bool HV.out.symm, HB.out.alloc HB.out.size _⟩

theorem unwritten_regs (b1 b2 : Nat) (at_ n : Nat) (w : World) (hb1 : b1 < w.heap.size) (hb2 : b2 < w.heap.size) (h1 : w.cell? ⟨b1, 0, none⟩ = some (.int .i64 (at_ : Int))) (h2 : w.cell? ⟨b2, 0, none⟩ = some (.int .i64 (n : Int))) :
    PredB 69 #[.pointer (some ⟨b1, 0, none⟩), .pointer (some ⟨b2, 0, none⟩)] (writesA at_ n) w := by
  intro W x hx hb
  obtain ⟨xa, xm, xr, xw, xh⟩ := x
  have hc1 := (hb.cell (p := ⟨b1, 0, none⟩) hb1).trans h1
  have hc2 := (hb.cell (p := ⟨b2, 0, none⟩) hb2).trans h2
  have hl1 : b1 < W.heap.size := Nat.lt_of_lt_of_le hb1 hb.size
  have hl2 : b2 < W.heap.size := Nat.lt_of_lt_of_le hb2 hb.size
  have hn1 : b1 ≠ W.heap.size := by omega
  have hn2 : b2 ≠ W.heap.size := by omega
  have HB := Lib.hid hb
  clear hb h1 h2 hb1 hb2
  show Calls Try.prog _ #[arV _, .pointer (some ⟨b1, 0, none⟩), .pointer (some ⟨b2, 0, none⟩)] W _
  cases xw
  · go_enter Try.func69, Try.ntmps69
    go_wp2_with fail
    go_ret
    exact ⟨rfl, HB.out.alloc HB.out.size _⟩
  cases xh
  · go_enter Try.func69, Try.ntmps69
    go_wp2_with fail
    go_ret
    exact ⟨rfl, HB.out.alloc HB.out.size _⟩
  by_cases ha : xa = (at_ : Int)
  · subst ha
    have hd : ((at_ : Int) != (at_ : Int)) = false := by simp
    go_enter Try.func69, Try.ntmps69
    go_wp2_with fail
    go_ret
    exact ⟨ret_bool (by simp [writesA]), HB.out.alloc HB.out.size _⟩
  · have hd : (xa != (at_ : Int)) = true := by simpa using ha
    have HV : Hid (writesA at_ n ⟨xa, xm, xr, true, true⟩ = true) := Lib.hid (by simp [writesA, ha])
    clear ha
    go_enter Try.func69, Try.ntmps69
    go_wp2_with fail
    go_ret
    exact ⟨ret_bool HV.out.symm, HB.out.alloc HB.out.size _⟩

set_option maxHeartbeats 2000000 in
theorem right_bits (g o : Nat) (a : Option Addr) (n c : Nat) (es : List Ar) (d : Option Addr) (m k : Nat) (w : World) (hg : g < w.heap.size) (hm : m ≤ 1000000)
    (h1 : w.cell? ⟨g, o, none⟩ = some (.slice a n c)) (h2 : w.cell? ⟨g, o + 1, none⟩ = some (.slice d m k)) (hE : ArsAt w w.heap.size a n c es) :
    Calls Try.prog 29 #[.pointer (some ⟨g, o, none⟩)] w (Says (.bool (rightFrom m 0 es)) w) := by
  have hbig := hE.big
  have hlen := hE.len
  have HE := Lib.hid hE
  clear hE
  go_enter Try.func29, Try.ntmps29
  go_wp2_with fail
  go_loopw [3, 11] (fun e i wr => ∃ (kk : Nat) (z : Int), kk ≤ n ∧ 0 ≤ z ∧ z ≤ 1000000 ∧ e = .int .i64 z ∧ i = .int .i64 (kk : Int) ∧ Hid (Below w.heap.size w wr) ∧ Hid (rightFrom m 0 es = rightFrom m z (es.drop kk))) (fun _ i _ => n - (intOf i).toNat)
  case atStart => exact ⟨0, 0, by omega, by omega, by omega, rfl, rfl, Lib.hid (Below.refl _ _), Lib.hid rfl⟩
  case round =>
    obtain ⟨kk, z, hk, hz0, hz1, rfl, rfl, HB, HR⟩ := hrel
    have hgw : g < wr.heap.size := Nat.lt_of_lt_of_le hg HB.out.size
    have hne : g ≠ wr.heap.size := by omega
    have q1 := (HB.out.cell (p := ⟨g, o, none⟩) hg).trans h1
    have q2 := (HB.out.cell (p := ⟨g, o + 1, none⟩) hg).trans h2
    by_cases hlt : kk < n
    · have ht : decide ((kk : Int) < (n : Int)) = true := by simp; omega
      obtain ⟨b, off, x, rfl, hb, hx, -, hok, c0, c1, c2, c3, c4⟩ := (HE.out.below HB.out (Nat.le_refl _)).at_ hlt
      have HX := Lib.hid hx
      have HD : Hid (es.drop kk = x :: es.drop (kk + 1)) := Lib.hid (by rw [List.drop_eq_getElem_cons (by omega)]; congr 1; have := List.getElem?_eq_getElem (l := es) (i := kk) (by omega); rw [hx] at this; injection this with this; exact this.symm)
      clear hx hlen h1 h2
      obtain ⟨xa, xm, xr, xw, xh⟩ := x
      obtain ⟨a1, a2, m1, m2⟩ := hok
      simp only at c0 c1 c2 c3 c4 a1 a2 m1 m2
      have i1 : (0 : Int) ≤ (kk : Int) := by omega
      have i2 : (kk : Int) < (n : Int) := by omega
      by_cases g1 : xa < z
      · have d1 : decide (xa < z) = true := by simpa using g1
        have HV : Hid (rightFrom m 0 es = false) := Lib.hid (by rw [HR.out, HD.out]; simp [rightFrom, g1])
        clear g1
        go_wp2_with fail
        go_quiet (fail)
        go_wp2_with fail
        go_ret
        exact says_bool HV.out.symm (below_drawn (HB.out.alloc HB.out.size _) _)
      have d1 : decide (xa < z) = false := by simpa using g1
      by_cases g2 : xm < 1
      · have d2 : decide (xm < 1) = true := by simpa using g2
        have HV : Hid (rightFrom m 0 es = false) := Lib.hid (by rw [HR.out, HD.out]; simp [rightFrom, g2])
        clear g1 g2
        go_wp2_with fail
        go_quiet (fail)
        go_wp2_with fail
        go_ret
        exact says_bool HV.out.symm (below_drawn (HB.out.alloc HB.out.size _) _)
      have d2 : decide (xm < 1) = false := by simpa using g2
      have hw : IntKind.i64.wrap ((m : Int) - xa) = (m : Int) - xa := wrap64 (by omega) (by omega)
      by_cases g3 : (m : Int) - xa < xm
      · have d3 : decide ((m : Int) - xa < xm) = true := by simpa using g3
        have HV : Hid (rightFrom m 0 es = false) := Lib.hid (by rw [HR.out, HD.out]; simp [rightFrom, g3])
        clear g1 g2 g3
        go_wp2_with fail
        go_quiet (fail)
        go_wp2_with fail
        go_ret
        exact says_bool HV.out.symm (below_drawn (HB.out.alloc HB.out.size _) _)
      have d3 : decide ((m : Int) - xa < xm) = false := by simpa using g3
      have HN : Hid (rightFrom m 0 es = rightFrom m (xa + xm) (es.drop (kk + 1))) := Lib.hid (by rw [HR.out, HD.out]; simp [rightFrom, g1, g2, g3])
      go_wp2_with fail
      go_quiet (fail)
      go_wp2_with fail
      go_roundw
      case rel => exact ⟨kk + 1, xa + xm, by omega, by omega, by omega, by go_num, by go_num, Lib.hid (below_drawn (HB.out.alloc HB.out.size _) _), HN⟩
      case measure => first | omega | (simp [intOf]; omega)
    · obtain rfl : kk = n := by omega
      have ht : decide ((kk : Int) < (kk : Int)) = false := by simp
      have HV : Hid (rightFrom m 0 es = decide (m ≤ 65536)) := Lib.hid (by rw [HR.out, List.drop_of_length_le (by omega)]; rfl)
      clear HR h1 h2
      go_wp2_with fail
      go_ret
      exact says_bool (by rw [HV.out]; first | rfl | (rw [decide_eq_decide]; omega)) HB.out

set_option maxHeartbeats 2000000 in
theorem right_regs (g o : Nat) (a : Option Addr) (n c : Nat) (es : List Ar) (d : Option Addr) (m k : Nat) (w : World) (hg : g < w.heap.size) (hm : m ≤ 1000000)
    (h1 : w.cell? ⟨g, o, none⟩ = some (.slice a n c)) (h2 : w.cell? ⟨g, o + 1, none⟩ = some (.slice d m k)) (hE : ArsAt w w.heap.size a n c es) :
    Calls Try.prog 30 #[.pointer (some ⟨g, o, none⟩)] w (Says (.bool (rightFrom m 0 es)) w) := by
  have hbig := hE.big
  have hlen := hE.len
  have HE := Lib.hid hE
  clear hE
  go_enter Try.func30, Try.ntmps30
  go_wp2_with fail
  go_loopw [3, 11] (fun e i wr => ∃ (kk : Nat) (z : Int), kk ≤ n ∧ 0 ≤ z ∧ z ≤ 1000000 ∧ e = .int .i64 z ∧ i = .int .i64 (kk : Int) ∧ Hid (Below w.heap.size w wr) ∧ Hid (rightFrom m 0 es = rightFrom m z (es.drop kk))) (fun _ i _ => n - (intOf i).toNat)
  case atStart => exact ⟨0, 0, by omega, by omega, by omega, rfl, rfl, Lib.hid (Below.refl _ _), Lib.hid rfl⟩
  case round =>
    obtain ⟨kk, z, hk, hz0, hz1, rfl, rfl, HB, HR⟩ := hrel
    have hgw : g < wr.heap.size := Nat.lt_of_lt_of_le hg HB.out.size
    have hne : g ≠ wr.heap.size := by omega
    have q1 := (HB.out.cell (p := ⟨g, o, none⟩) hg).trans h1
    have q2 := (HB.out.cell (p := ⟨g, o + 1, none⟩) hg).trans h2
    by_cases hlt : kk < n
    · have ht : decide ((kk : Int) < (n : Int)) = true := by simp; omega
      obtain ⟨b, off, x, rfl, hb, hx, -, hok, c0, c1, c2, c3, c4⟩ := (HE.out.below HB.out (Nat.le_refl _)).at_ hlt
      have HX := Lib.hid hx
      have HD : Hid (es.drop kk = x :: es.drop (kk + 1)) := Lib.hid (by rw [List.drop_eq_getElem_cons (by omega)]; congr 1; have := List.getElem?_eq_getElem (l := es) (i := kk) (by omega); rw [hx] at this; injection this with this; exact this.symm)
      clear hx hlen h1 h2
      obtain ⟨xa, xm, xr, xw, xh⟩ := x
      obtain ⟨a1, a2, m1, m2⟩ := hok
      simp only at c0 c1 c2 c3 c4 a1 a2 m1 m2
      have i1 : (0 : Int) ≤ (kk : Int) := by omega
      have i2 : (kk : Int) < (n : Int) := by omega
      by_cases g1 : xa < z
      · have d1 : decide (xa < z) = true := by simpa using g1
        have HV : Hid (rightFrom m 0 es = false) := Lib.hid (by rw [HR.out, HD.out]; simp [rightFrom, g1])
        clear g1
        go_wp2_with fail
        go_quiet (fail)
        go_wp2_with fail
        go_ret
        exact says_bool HV.out.symm (below_drawn (HB.out.alloc HB.out.size _) _)
      have d1 : decide (xa < z) = false := by simpa using g1
      by_cases g2 : xm < 1
      · have d2 : decide (xm < 1) = true := by simpa using g2
        have HV : Hid (rightFrom m 0 es = false) := Lib.hid (by rw [HR.out, HD.out]; simp [rightFrom, g2])
        clear g1 g2
        go_wp2_with fail
        go_quiet (fail)
        go_wp2_with fail
        go_ret
        exact says_bool HV.out.symm (below_drawn (HB.out.alloc HB.out.size _) _)
      have d2 : decide (xm < 1) = false := by simpa using g2
      have hw : IntKind.i64.wrap ((m : Int) - xa) = (m : Int) - xa := wrap64 (by omega) (by omega)
      by_cases g3 : (m : Int) - xa < xm
      · have d3 : decide ((m : Int) - xa < xm) = true := by simpa using g3
        have HV : Hid (rightFrom m 0 es = false) := Lib.hid (by rw [HR.out, HD.out]; simp [rightFrom, g3])
        clear g1 g2 g3
        go_wp2_with fail
        go_quiet (fail)
        go_wp2_with fail
        go_ret
        exact says_bool HV.out.symm (below_drawn (HB.out.alloc HB.out.size _) _)
      have d3 : decide ((m : Int) - xa < xm) = false := by simpa using g3
      have HN : Hid (rightFrom m 0 es = rightFrom m (xa + xm) (es.drop (kk + 1))) := Lib.hid (by rw [HR.out, HD.out]; simp [rightFrom, g1, g2, g3])
      go_wp2_with fail
      go_quiet (fail)
      go_wp2_with fail
      go_roundw
      case rel => exact ⟨kk + 1, xa + xm, by omega, by omega, by omega, by go_num, by go_num, Lib.hid (below_drawn (HB.out.alloc HB.out.size _) _), HN⟩
      case measure => first | omega | (simp [intOf]; omega)
    · obtain rfl : kk = n := by omega
      have ht : decide ((kk : Int) < (kk : Int)) = false := by simp
      have HV : Hid (rightFrom m 0 es = decide (m ≤ 65536)) := Lib.hid (by rw [HR.out, List.drop_of_length_le (by omega)]; rfl)
      clear HR h1 h2
      go_wp2_with fail
      go_ret
      exact says_bool (by rw [HV.out]; first | rfl | (rw [decide_eq_decide]; omega)) HB.out

end Go.Proofs.Ytamdpinfbadflaa.ModW
/- The areas of addresses beside one another: a row that is made and filled; what may be read, and written. -/
open Go.RowKit
namespace Go.Proofs.Ytamdpinfbadflaa.ModM
/-- The row in the middle of one area's round: its first k cells have it looked at. -/
def midN (es : List Ar) (x : Ar) (at_ n k : Nat) : List Ar := (List.range n).map fun j => if j < k then ownN (es ++ [x]) ((at_ + j : Nat) : Int) else ownN es ((at_ + j : Nat) : Int)
theorem mid_length (es : List Ar) (x : Ar) (at_ n k : Nat) : (midN es x at_ n k).length = n := by simp [midN]
theorem mid_at {es : List Ar} {x : Ar} {at_ n k j : Nat} (hj : j < n) : (midN es x at_ n k)[j]? = some (if j < k then ownN (es ++ [x]) ((at_ + j : Nat) : Int) else ownN es ((at_ + j : Nat) : Int)) := by
  simp [midN, hj]
theorem has_low {x : Ar} {i : Int} (h : i < x.at_) : hasN x i = false := by
  unfold hasN; simp; omega
theorem own_keep {es : List Ar} {x : Ar} {i : Int} (h : (ownN es i).many ≠ 0 ∨ hasN x i = false) : ownN (es ++ [x]) i = ownN es i := by
  rw [own_snoc, if_neg]
  rintro ⟨h1, h2⟩
  rcases h with h | h
  · exact h h1
  · rw [h2] at h; cases h
theorem mid_start {es : List Ar} {x : Ar} {at_ n k : Nat} (h : ∀ j, j < k → ((at_ + j : Nat) : Int) < x.at_) : midN es x at_ n k = ownersN es at_ n := by
  unfold midN ownersN
  refine List.map_congr_left fun j _ => ?_
  split
  · rw [own_keep (.inr (has_low (h j (by assumption))))]
  · rfl
theorem mid_all {es : List Ar} {x : Ar} {at_ n k : Nat} (h : n ≤ k) : midN es x at_ n k = ownersN (es ++ [x]) at_ n := by
  unfold midN ownersN
  refine List.map_congr_left fun j hj => ?_
  rw [if_pos (by have := List.mem_range.1 hj; omega)]
theorem mid_rest {es : List Ar} {x : Ar} {at_ n k : Nat} (hx : x.at_ ≤ ((at_ + k : Nat) : Int)) (h : hasN x ((at_ + k : Nat) : Int) = false) : midN es x at_ n k = ownersN (es ++ [x]) at_ n := by
  unfold midN ownersN
  refine List.map_congr_left fun j _ => ?_
  split
  · rfl
  · refine (own_keep (.inr ?_)).symm
    unfold hasN at h ⊢
    simp at h ⊢
    omega
theorem mid_keep {es : List Ar} {x : Ar} {at_ n k : Nat} (h : (ownN es ((at_ + k : Nat) : Int)).many ≠ 0) : midN es x at_ n k = midN es x at_ n (k + 1) := by
  unfold midN
  refine List.map_congr_left fun j _ => ?_
  by_cases h1 : j < k
  · rw [if_pos h1, if_pos (by omega)]
  · rw [if_neg h1]
    by_cases h2 : j = k
    · subst h2
      rw [if_pos (by omega), own_keep (.inl h)]
    · rw [if_neg (by omega)]
theorem mid_hit {es : List Ar} {x : Ar} {at_ n k : Nat} (hk : k < n) (h : (ownN es ((at_ + k : Nat) : Int)).many = 0) (hx : hasN x ((at_ + k : Nat) : Int) = true) : (midN es x at_ n k).set k x = midN es x at_ n (k + 1) := by
  apply List.ext_getElem?
  intro j
  by_cases hj : j < n
  · by_cases h2 : j = k
    · subst h2
      rw [List.getElem?_set_self (by rw [mid_length]; exact hj), mid_at hj, if_pos (by omega), own_snoc, if_pos ⟨h, hx⟩]
    · rw [List.getElem?_set_ne (by omega), mid_at hj, mid_at hj]
      by_cases h1 : j < k
      · rw [if_pos h1, if_pos (by omega)]
      · rw [if_neg h1, if_neg (by omega)]
  · rw [List.getElem?_eq_none (by rw [List.length_set, mid_length]; omega), List.getElem?_eq_none (by rw [mid_length]; omega)]
end Go.Proofs.Ytamdpinfbadflaa.ModM
namespace Go.Proofs.Ytamdpinfbadflaa.ModW
open AskM ReplyM ModM Mem AskW

theorem below_cells {B : Nat} {a : World} {g : Nat} (hg : B ≤ g) : ∀ (vs : List Value) (o : Nat) (w : World), Below B a w → Below B a (w.setCells g o vs)
  | [], _, _, h => h
  | v :: r, o, _, h => below_cells hg r (o + 1) _ (h.setCell (p := ⟨g, o, none⟩) hg v)
theorem size_cells (g : Nat) : ∀ (vs : List Value) (o : Nat) (w : World), (w.setCells g o vs).heap.size = w.heap.size
  | [], _, _ => rfl
  | v :: r, o, w => by rw [World.setCells, size_cells g r (o + 1) _, World.size_setCell]
theorem heap_cells_other (g : Nat) {i : Nat} (hne : i ≠ g) : ∀ (vs : List Value) (o : Nat) (w : World), (w.setCells g o vs).heap[i]? = w.heap[i]?
  | [], _, _ => rfl
  | v :: r, o, w => by rw [World.setCells, heap_cells_other g hne r (o + 1) _, Below.heap_setCell _ _ _ _ hne]
theorem ar_one (xa xm : Int) (xr xw xh : Bool) : (#[.int .i64 xa, .int .i64 xm, .bool xr, .bool xw, .bool xh] : Array Value).all (·.oneCell') = true :=
  all_oneCell_toArray (cs := [.int .i64 xa, .int .i64 xm, .bool xr, .bool xw, .bool xh]) (fun v hv => by
    simp only [List.mem_cons, List.not_mem_nil, or_false] at hv
    rcases hv with rfl | rfl | rfl | rfl | rfl <;> rfl)
theorem store5 {W : World} {g o : Nat} (ht : W.there g o 5) (v0 v1 v2 v3 _v4 : Value) : ∃ o0 o1 o2 o3 o4,
    (W.cell? ⟨g, o, none⟩ = some o0 ∧ W.frozen? ⟨g, o, none⟩ = false) ∧
    ((W.setCell ⟨g, o, none⟩ v0).cell? ⟨g, o + 1, none⟩ = some o1 ∧ (W.setCell ⟨g, o, none⟩ v0).frozen? ⟨g, o + 1, none⟩ = false) ∧
    (((W.setCell ⟨g, o, none⟩ v0).setCell ⟨g, o + 1, none⟩ v1).cell? ⟨g, o + 2, none⟩ = some o2 ∧ ((W.setCell ⟨g, o, none⟩ v0).setCell ⟨g, o + 1, none⟩ v1).frozen? ⟨g, o + 2, none⟩ = false) ∧
    ((((W.setCell ⟨g, o, none⟩ v0).setCell ⟨g, o + 1, none⟩ v1).setCell ⟨g, o + 2, none⟩ v2).cell? ⟨g, o + 3, none⟩ = some o3 ∧ (((W.setCell ⟨g, o, none⟩ v0).setCell ⟨g, o + 1, none⟩ v1).setCell ⟨g, o + 2, none⟩ v2).frozen? ⟨g, o + 3, none⟩ = false) ∧
    (((((W.setCell ⟨g, o, none⟩ v0).setCell ⟨g, o + 1, none⟩ v1).setCell ⟨g, o + 2, none⟩ v2).setCell ⟨g, o + 3, none⟩ v3).cell? ⟨g, o + 4, none⟩ = some o4 ∧ ((((W.setCell ⟨g, o, none⟩ v0).setCell ⟨g, o + 1, none⟩ v1).setCell ⟨g, o + 2, none⟩ v2).setCell ⟨g, o + 3, none⟩ v3).frozen? ⟨g, o + 4, none⟩ = false) := by
  have t0 := World.there_setCells ht g o []
  have t1 := World.there_setCells ht g o [v0]
  have t2 := World.there_setCells ht g o [v0, v1]
  have t3 := World.there_setCells ht g o [v0, v1, v2]
  have t4 := World.there_setCells ht g o [v0, v1, v2, v3]
  obtain ⟨o0, h0⟩ := Option.isSome_iff_exists.1 (t0 0 (by omega)).1
  obtain ⟨o1, h1⟩ := Option.isSome_iff_exists.1 (t1 1 (by omega)).1
  obtain ⟨o2, h2⟩ := Option.isSome_iff_exists.1 (t2 2 (by omega)).1
  obtain ⟨o3, h3⟩ := Option.isSome_iff_exists.1 (t3 3 (by omega)).1
  obtain ⟨o4, h4⟩ := Option.isSome_iff_exists.1 (t4 4 (by omega)).1
  exact ⟨o0, o1, o2, o3, o4, ⟨h0, (t0 0 (by omega)).2⟩, ⟨h1, (t1 1 (by omega)).2⟩, ⟨h2, (t2 2 (by omega)).2⟩, ⟨h3, (t3 3 (by omega)).2⟩, ⟨h4, (t4 4 (by omega)).2⟩⟩
theorem arCells_len (x : Ar) : (arCells x).length = 5 := rfl
/-- The row of areas in block g. -/
structure Lay (W : World) (g : Nat) (es : List Ar) : Prop where
  cell : ∀ i e, es[i]? = some e → W.rangeAt g (i * 5) (arCells e)
  free : W.there g 0 (es.length * 5)
  lt : g < W.heap.size
section
variable {W W' : World} {g : Nat} {es : List Ar}
theorem Lay.on (h : Lay W g es) (hb : Below W.heap.size W W') : Lay W' g es :=
  ⟨fun i e hx j v hv => (hb.cell (p := ⟨g, _, none⟩) h.lt).trans (h.cell i e hx j v hv), fun j hj => ⟨by rw [hb.cell (p := ⟨g, _, none⟩) h.lt]; exact (h.free j hj).1, by rw [hb.frozen (p := ⟨g, _, none⟩) h.lt]; exact (h.free j hj).2⟩, Nat.lt_of_lt_of_le h.lt hb.size⟩
theorem Lay.set (h : Lay W g es) {k : Nat} (hk : k < es.length) (x : Ar) : Lay (W.setCells g (k * 5) (arCells x)) g (es.set k x) := by
  have ht : W.there g (k * 5) (arCells x).length := fun j hj => by
    rw [arCells_len] at hj
    have := h.free (k * 5 + j) (by omega)
    rwa [Nat.zero_add] at this
  refine ⟨fun i e hx => ?_, by rw [List.length_set]; exact World.there_setCells h.free _ _ _, by rw [size_cells]; exact h.lt⟩
  by_cases hik : i = k
  · subst hik
    rw [List.getElem?_set_self hk] at hx
    injection hx with hx
    subst hx
    exact World.rangeAt_setCells_same _ _ _ _ ht
  · rw [List.getElem?_set_ne (fun e => hik e.symm)] at hx
    refine World.rangeAt_setCells_apart (h.cell i e hx) _ _ _ ?_
    rw [arCells_len, arCells_len]
    rcases Nat.lt_or_gt_of_ne hik with h1 | h1
    · exact .inr (.inl (by omega))
    · exact .inr (.inr (by omega))
theorem Lay.ars (h : Lay W g es) (hok : ∀ e ∈ es, ArOk e) {n : Nat} (hn : es.length = n) (hm : n ≤ 1000000) : ArsAt W W.heap.size (some ⟨g, 0, none⟩) n n es :=
  ⟨hn, Nat.le_refl _, by unfold maxLen; omega, hok, fun _ => ⟨g, 0, rfl, h.lt, fun i e hx j v hv => by have := h.cell i e hx j v hv; rwa [Nat.zero_add]⟩⟩
theorem Lay.many (h : Lay W g es) {k : Nat} {e : Ar} (hx : es[k]? = some e) : W.cell? ⟨g, k * 5 + 1, none⟩ = some (.int .i64 e.many) := h.cell k e hx 1 _ rfl
end
theorem zeros_range (n : Nat) (e : TypeId) (w : World) : Lay (w.alloc (.cells (madeCells #[.int .i64 0, .int .i64 0, .bool false, .bool false, .bool false] (n * 5)) e)) w.heap.size (List.replicate n zeroA) := by
  have hc : ∀ j, j < n * 5 → (w.alloc (.cells (madeCells #[.int .i64 0, .int .i64 0, .bool false, .bool false, .bool false] (n * 5)) e)).cell? ⟨w.heap.size, j, none⟩ = some (#[.int .i64 0, .int .i64 0, .bool false, .bool false, .bool false][j % 5]!) := fun j hj => by
    rw [cell_of_row _ _ _ _ _ _ (heap_alloc_new w _)]
    simp [madeCells, hj]
  refine ⟨fun i x hx j v hv => ?_, fun j hj => ?_, by simp⟩
  · have hi : i < n := by have := (List.getElem?_eq_some_iff.1 hx).1; simpa using this
    have hj : j < 5 := by have := (List.getElem?_eq_some_iff.1 hv).1; rwa [arCells_len] at this
    have hxz : x = zeroA := by rw [List.getElem?_replicate] at hx; rw [if_pos hi] at hx; injection hx with hx; exact hx.symm
    subst hxz
    rw [hc _ (by omega), ← hv, show (i * 5 + j) % 5 = j by omega]
    match j, hj with
    | 0, _ => rfl
    | 1, _ => rfl
    | 2, _ => rfl
    | 3, _ => rfl
    | 4, _ => rfl
  · rw [List.length_replicate] at hj
    rw [Nat.zero_add, hc j hj]
    exact ⟨rfl, frozen_of_row _ _ _ _ _ (heap_alloc_new w _)⟩
theorem own_ok {es : List Ar} (h : ∀ e ∈ es, ArOk e) (i : Int) : ArOk (ownN es i) := by
  unfold ownN
  cases hf : es.find? (hasN · i) with
  | none => exact ⟨by decide, by decide, by decide, by decide⟩
  | some x => exact h x (List.mem_of_find?_eq_some hf)
theorem owners_ok {es : List Ar} (h : ∀ e ∈ es, ArOk e) (at_ n : Nat) : ∀ e ∈ ownersN es at_ n, ArOk e := fun e he => by
  obtain ⟨k, _, rfl⟩ := List.mem_map.1 he
  exact own_ok h _
theorem info49 : (Try.prog.info? 49).map (fun i => (i.zero, i.size)) = some (some (.agg #[.int .i64 0, .int .i64 0, .bool false, .bool false, .bool false]), 5) ∧ ((Try.prog.info? 49).map (fun i => decide (i.bytes ≤ 1000))) = some true := ⟨by kernel_rfl, by kernel_rfl⟩
theorem size49 : (Try.prog.info? 49).map (·.size) = some 5 := by kernel_rfl
theorem make_areas (n : Nat) (hn : n ≤ 100000) (w : World) : (Instr.makeSlice 22 (.int .i64 (n : Int)) (.int .i64 (n : Int))).run Try.prog w = .ok (.slice (some ⟨w.heap.size, 0, none⟩) n n) (w.alloc (.cells (madeCells #[.int .i64 0, .int .i64 0, .bool false, .bool false, .bool false] (n * 5)) 49)) := by
  obtain ⟨i, hi⟩ : ∃ i, Try.prog.info? 49 = some i := by
    cases h : Try.prog.info? 49 with
    | none => have := info49.1; rw [h] at this; cases this
    | some i => exact ⟨i, rfl⟩
  have h1 := info49.1
  have h2 := info49.2
  rw [hi] at h1 h2
  simp only [Option.map_some, Option.some.injEq, Prod.mk.injEq, decide_eq_true_eq] at h1 h2
  have hb : (i.bytes : Int) * (n : Int) ≤ 281474976710656 := by
    have : i.bytes * n ≤ 1000 * 100000 := Nat.mul_le_mul h2 hn
    have h3 : ((i.bytes * n : Nat) : Int) ≤ 281474976710656 := by omega
    rwa [Int.natCast_mul] at h3
  have hr := run_make (P := Try.prog) w 22 49 i _ Try.underlying22 hi h1.1 .i64 .i64 (n : Int) (n : Int) (by omega) (Int.le_refl _) hb (by omega)
  simp only [Int.toNat_natCast, h1.2, Value.cells] at hr
  exact hr


def OwnersAt (es : List Ar) (at_ n : Nat) (w : World) (e : Ending) (w' : World) : Prop :=
  e = .returned (.slice (some ⟨w.heap.size, 0, none⟩) n n) ∧ ArsAt w' w'.heap.size (some ⟨w.heap.size, 0, none⟩) n n (ownersN es at_ n) ∧ Below w.heap.size w w'
set_option maxHeartbeats 2000000 in
theorem owners_bits (g o : Nat) (a : Option Addr) (m c : Nat) (es : List Ar) (at_ n : Nat) (w : World) (hg : g < w.heap.size) (hat : at_ ≤ 65535) (hn : n ≤ 65535)
    (h1 : w.cell? ⟨g, o, none⟩ = some (.slice a m c)) (hE : ArsAt w w.heap.size a m c es) :
    Calls Try.prog 64 #[.pointer (some ⟨g, o, none⟩), .int .i64 (at_ : Int), .int .i64 (n : Int)] w (OwnersAt es at_ n w) := by
  have hbig := hE.big
  have hlen := hE.len
  have hmk := make_areas n (by omega)
  have HE := Lib.hid hE
  clear hE
  have hl := zeros_range n 49 w
  have hb0 : Below w.heap.size w (w.alloc (.cells (madeCells #[.int .i64 0, .int .i64 0, .bool false, .bool false, .bool false] (n * 5)) 49)) := (Below.refl _ _).alloc (Nat.le_refl _) _
  have hq0 : (w.alloc (.cells (madeCells #[.int .i64 0, .int .i64 0, .bool false, .bool false, .bool false] (n * 5)) 49)).cell? ⟨g, o, none⟩ = some (.slice a m c) := (hb0.cell (p := ⟨g, o, none⟩) hg).trans h1
  have hs0 : (w.alloc (.cells (madeCells #[.int .i64 0, .int .i64 0, .bool false, .bool false, .bool false] (n * 5)) 49)).heap.size = w.heap.size + 1 := by simp
  have HM := Lib.hid hmk
  clear hmk
  go_enter Try.func64, Try.ntmps64
  have hmk := HM.out
  go_wp2_with fail
  clear hmk
  generalize w.alloc (.cells (madeCells #[.int .i64 0, .int .i64 0, .bool false, .bool false, .bool false] (n * 5)) 49) = W0 at *
  have HL := Lib.hid (And.intro hl (And.intro hb0 hs0))
  clear hl hb0 hq0 hs0
  have hat' : IntKind.i64.wrap ((at_ : Int) + (n : Int)) = (at_ : Int) + (n : Int) := wrap64 (by omega) (by omega)
  go_loopw [18] (fun i wr => ∃ kk : Nat, kk ≤ m ∧ i = .int .i64 (kk : Int) ∧ Hid (Below w.heap.size w wr ∧ Lay wr w.heap.size (ownersN (es.take kk) at_ n))) (fun i _ => m - (intOf i).toNat)
  case atStart => exact ⟨0, by omega, rfl, Lib.hid ⟨HL.out.2.1, by have h := HL.out.1; rwa [show List.replicate n zeroA = ownersN (es.take 0) at_ n by simp [ownersN, own_nil, List.map_const']] at h⟩⟩
  case round =>
    obtain ⟨kk, hk, rfl, HR⟩ := hrel
    by_cases hlt : kk < m
    · have ht : decide ((kk : Int) < (m : Int)) = true := by simp; omega
      obtain ⟨b, off, x, rfl, hb, hx, -, hok, c0, c1, c2, c3, c4⟩ := (HE.out.below HR.out.1 (Nat.le_refl _)).at_ hlt
      have HD : Hid (es.take (kk + 1) = es.take kk ++ [x]) := Lib.hid (by rw [List.take_add_one, hx]; rfl)
      have HO := Lib.hid hok
      clear hx hlen h1
      obtain ⟨a1, a2, m1, m2⟩ := hok
      have i1 : (0 : Int) ≤ (kk : Int) := by omega
      have i2 : (kk : Int) < (m : Int) := by omega
      obtain ⟨k0, hk0⟩ : ∃ k0 : Nat, (if x.at_ > (at_ : Int) then x.at_ else (at_ : Int)) = ((at_ + k0 : Nat) : Int) := by
        split
        · exact ⟨(x.at_ - at_).toNat, by omega⟩
        · exact ⟨0, by omega⟩
      have HK : Hid (((at_ + k0 : Nat) : Int) ≤ 9223372036854775807 ∧ x.at_ ≤ ((at_ + k0 : Nat) : Int) ∧ ∀ j, j < k0 → ((at_ + j : Nat) : Int) < x.at_) := Lib.hid (by
        split at hk0
        · exact ⟨by omega, by omega, fun j hj => by omega⟩
        · exact ⟨by omega, by omega, fun j hj => by omega⟩)
      have HX : Hid (x = ⟨x.at_, x.many, x.read, x.write, x.whole⟩) := Lib.hid rfl
      have HK0 := Lib.hid hk0
      clear hk0
      have hk0 : (if x.at_ > (at_ : Int) then x.at_ else (at_ : Int)) = ((at_ + k0 : Nat) : Int) := HK0.out
      generalize hA : x.at_ = xa at *
      generalize hM : x.many = xm at *
      generalize hR : x.read = xr at *
      generalize hW : x.write = xw at *
      generalize hH : x.whole = xh at *
      have HA := Lib.hid hA
      clear hA hM hR hW hH
      go_wp2_with fail
      have HB0 := Lib.hid ((HR.out.1.alloc HR.out.1.size (.cells #[.int .i64 xa, .int .i64 xm, .bool xr, .bool xw, .bool xh] 49)))
      have HL0 : Hid (Lay (wr.alloc (.cells #[.int .i64 xa, .int .i64 xm, .bool xr, .bool xw, .bool xh] 49)) w.heap.size (midN (es.take kk) x at_ n k0)) := Lib.hid (by
        rw [mid_start (fun j hj => by rw [HA.out]; exact HK.out.2.2 j hj)]
        exact HR.out.2.on ((Below.refl _ _).alloc (Nat.le_refl _) _))
      have HX0 := Lib.hid (heap_alloc_new wr (.cells #[.int .i64 xa, .int .i64 xm, .bool xr, .bool xw, .bool xh] 49))
      have HNE : Hid (wr.heap.size ≠ w.heap.size) := Lib.hid (by have := HR.out.2.lt; omega)
      have hk0' : ((at_ + k0 : Nat) : Int) ≤ 9223372036854775807 := HK.out.1
      have hxa : xa ≤ ((at_ + k0 : Nat) : Int) := HK.out.2.1
      clear c0 c1 c2 c3 c4 hk0 HK0
      generalize wr.heap.size = bx at *
      go_loopw [10] (fun i ww => ∃ k : Nat, k0 ≤ k ∧ ((at_ + k : Nat) : Int) ≤ 9223372036854775807 ∧ i = .int .i64 ((at_ : Int) + (k : Int)) ∧ Hid (Below w.heap.size w ww ∧ Lay ww w.heap.size (midN (es.take kk) x at_ n k) ∧ ww.heap[bx]? = some (.cells #[.int .i64 xa, .int .i64 xm, .bool xr, .bool xw, .bool xh] 49 (0, 0)))) (fun i _ => (((at_ : Int) + (n : Int)) - intOf i).toNat)
      case atStart => exact ⟨k0, Nat.le_refl _, hk0', rfl, Lib.hid ⟨HB0.out, HL0.out, HX0.out⟩⟩
      case round =>
        obtain ⟨k, hk1, hk2, rfl, HW⟩ := hrel
        clear HB0 HL0 HX0
        have hxk : xa ≤ ((at_ + k : Nat) : Int) := by omega
        have hrow := HW.out.2.2
        have hblt : bx < wr.heap.size := (Array.getElem?_eq_some_iff.1 hrow).1
        have d0 := (cell_of_row wr bx 0 _ _ _ hrow)
        have d1 := (cell_of_row wr bx 1 _ _ _ hrow)
        have d2 := (cell_of_row wr bx 2 _ _ _ hrow)
        have d3 := (cell_of_row wr bx 3 _ _ _ hrow)
        have d4 := (cell_of_row wr bx 4 _ _ _ hrow)
        clear hrow
        have e0 : wr.cell? ⟨bx, 0, none⟩ = some (.int .i64 xa) := d0
        have e1 : wr.cell? ⟨bx, 1, none⟩ = some (.int .i64 xm) := d1
        have e2 : wr.cell? ⟨bx, 2, none⟩ = some (.bool xr) := d2
        have e3 : wr.cell? ⟨bx, 3, none⟩ = some (.bool xw) := d3
        have e4 : wr.cell? ⟨bx, 4, none⟩ = some (.bool xh) := d4
        clear d0 d1 d2 d3 d4
        have hcall := has_any x HO.out (at_ + k)
        by_cases hkn : k < n
        · have ht2 : decide ((at_ : Int) + (k : Int) < (at_ : Int) + (n : Int)) = true := by simp; omega
          have hcall := hcall (by omega) wr
          cases hhas : hasN x ((at_ + k : Nat) : Int)
          · rw [hhas, HX.out] at hcall
            have HH := Lib.hid hhas
            have HC := Lib.hid hcall
            clear hhas hcall
            go_wp2_with fail
            refine HC.out.mono ?_
            rintro e w2 ⟨rfl, hb2⟩
            have HB2 := Lib.hid (HW.out.1.trans (hb2.mono HW.out.1.size))
            have HL2 := Lib.hid (HW.out.2.1.on hb2)
            clear hb2
            go_wp2_with fail
            go_roundw
            case rel =>
              refine ⟨kk + 1, by omega, by go_num, Lib.hid ⟨HB2.out, ?_⟩⟩
              rw [HD.out, ← mid_rest (by rw [HA.out]; exact hxk) HH.out]
              exact HL2.out
            case measure => first | omega | (simp [intOf]; omega)
          · rw [hhas, HX.out] at hcall
            have HH := Lib.hid hhas
            have HC := Lib.hid hcall
            clear hhas hcall
            have hmid : (midN (es.take kk) x at_ n k)[k]? = some (ownN (es.take kk) ((at_ + k : Nat) : Int)) := by rw [mid_at hkn, if_neg (by omega)]
            have HMID := Lib.hid hmid
            clear hmid
            have hok := own_ok (es := es.take kk) (fun e he => HE.out.ok e (List.mem_of_mem_take he)) ((at_ + k : Nat) : Int)
            obtain ⟨mm, hmm⟩ : ∃ mm, (ownN (es.take kk) ((at_ + k : Nat) : Int)).many = mm := ⟨_, rfl⟩
            have hmm1 := hok.m1
            have hmm2 := hok.m2
            rw [hmm] at hmm1 hmm2
            have HMM := Lib.hid hmm
            have hw1 : IntKind.i64.wrap ((at_ : Int) + (k : Int) - (at_ : Int)) = (k : Int) := by rw [wrap64 (by omega) (by omega)]; omega
            have j1 : (0 : Int) ≤ (k : Int) := by omega
            have j2 : (k : Int) < (n : Int) := by omega
            clear hok hmm
            go_wp2_with fail
            refine HC.out.mono ?_
            rintro e w2 ⟨rfl, hb2⟩
            have HB2 := Lib.hid (HW.out.1.trans (hb2.mono HW.out.1.size))
            have HL2 := Lib.hid (HW.out.2.1.on hb2)
            have hc2 : w2.cell? ⟨w.heap.size, k * 5 + 1, none⟩ = some (.int .i64 mm) := by
              have h := HL2.out.many HMID.out
              rwa [HMM.out] at h
            have f0 := (hb2.cell (p := ⟨bx, 0, none⟩) hblt).trans e0
            have f1 := (hb2.cell (p := ⟨bx, 1, none⟩) hblt).trans e1
            have f2 := (hb2.cell (p := ⟨bx, 2, none⟩) hblt).trans e2
            have f3 := (hb2.cell (p := ⟨bx, 3, none⟩) hblt).trans e3
            have f4 := (hb2.cell (p := ⟨bx, 4, none⟩) hblt).trans e4
            have HR2 := Lib.hid ((hb2.block bx hblt).trans HW.out.2.2)
            clear hb2 e0 e1 e2 e3 e4
            by_cases hz : mm = 0
            · subst hz
              have hthere : w2.there w.heap.size (k * 5) (#[.int .i64 xa, .int .i64 xm, .bool xr, .bool xw, .bool xh] : Array Value).size := fun j hj => by
                have hj : j < 5 := hj
                have h := HL2.out.free (k * 5 + j) (by rw [mid_length]; omega)
                rwa [Nat.zero_add] at h
              obtain ⟨o0, o1, o2, o3, o4, ⟨q0, z0⟩, ⟨q1, z1⟩, ⟨q2, z2⟩, ⟨q3, z3⟩, ⟨q4, z4⟩⟩ := store5 (show w2.there w.heap.size (k * 5) 5 from hthere) (.int .i64 xa) (.int .i64 xm) (.bool xr) (.bool xw) (.bool xh)
              clear hthere
              go_wp2_with fail
              have HB3 : Hid (Below w.heap.size w (w2.setCells w.heap.size (k * 5) [.int .i64 xa, .int .i64 xm, .bool xr, .bool xw, .bool xh])) := Lib.hid (below_cells (Nat.le_refl _) _ _ _ HB2.out)
              have HL3 : Hid (Lay (w2.setCells w.heap.size (k * 5) [.int .i64 xa, .int .i64 xm, .bool xr, .bool xw, .bool xh]) w.heap.size (midN (es.take kk) x at_ n (k + 1))) := Lib.hid (by
                rw [← mid_hit hkn HMM.out HH.out]
                have h := HL2.out.set (k := k) (by rw [mid_length]; exact hkn) x
                rw [show arCells x = [.int .i64 xa, .int .i64 xm, .bool xr, .bool xw, .bool xh] by rw [HX.out]; rfl] at h
                exact h)
              have HR3 : Hid ((w2.setCells w.heap.size (k * 5) [.int .i64 xa, .int .i64 xm, .bool xr, .bool xw, .bool xh]).heap[bx]? = some (.cells #[.int .i64 xa, .int .i64 xm, .bool xr, .bool xw, .bool xh] 49 (0, 0))) := Lib.hid (by
                have hne : bx ≠ w.heap.size := HNE.out
                rw [heap_cells_other _ hne]
                exact HR2.out)
              have HE3 : w2.setCells w.heap.size (k * 5) [.int .i64 xa, .int .i64 xm, .bool xr, .bool xw, .bool xh] = (((((w2.setCell ⟨w.heap.size, k * 5, none⟩ (.int .i64 xa)).setCell ⟨w.heap.size, k * 5 + 1, none⟩ (.int .i64 xm)).setCell ⟨w.heap.size, k * 5 + 2, none⟩ (.bool xr)).setCell ⟨w.heap.size, k * 5 + 3, none⟩ (.bool xw)).setCell ⟨w.heap.size, k * 5 + 4, none⟩ (.bool xh)) := rfl
              rw [HE3] at HB3 HL3 HR3
              clear HE3 q0 q1 q2 q3 q4 z0 z1 z2 z3 z4 f0 f1 f2 f3 f4
              generalize (((((w2.setCell ⟨w.heap.size, k * 5, none⟩ (.int .i64 xa)).setCell ⟨w.heap.size, k * 5 + 1, none⟩ (.int .i64 xm)).setCell ⟨w.heap.size, k * 5 + 2, none⟩ (.bool xr)).setCell ⟨w.heap.size, k * 5 + 3, none⟩ (.bool xw)).setCell ⟨w.heap.size, k * 5 + 4, none⟩ (.bool xh)) = w3 at *
              go_wp2_with fail
              go_roundw
              case rel =>
                exact ⟨k + 1, by omega, by omega, by go_num, Lib.hid ⟨HB3.out, HL3.out, HR3.out⟩⟩
              case measure => first | omega | (simp [intOf]; omega)
            · have hz2 : (mm == 0) = false := by simpa using hz
              go_wp2_with fail
              go_roundw
              case rel =>
                refine ⟨k + 1, by omega, by omega, by go_num, Lib.hid ⟨HB2.out, ?_, HR2.out⟩⟩
                rw [← mid_keep (by rw [HMM.out]; exact hz)]
                exact HL2.out
              case measure => first | omega | (simp [intOf]; omega)
        · have ht2 : decide ((at_ : Int) + (k : Int) < (at_ : Int) + (n : Int)) = false := by simp; omega
          clear hcall e0 e1 e2 e3 e4
          go_wp2_with fail
          go_roundw
          case rel =>
            refine ⟨kk + 1, by omega, by go_num, Lib.hid ⟨HW.out.1, ?_⟩⟩
            rw [HD.out, ← mid_all (k := k) (by omega)]
            exact HW.out.2.1
          case measure => first | omega | (simp [intOf]; omega)
    · obtain rfl : kk = m := by omega
      have ht : decide ((kk : Int) < (kk : Int)) = false := by simp
      have hA := HR.out.2
      rw [List.take_of_length_le (by omega)] at hA
      have HA := Lib.hid (hA.ars (owners_ok HE.out.ok at_ n) (owners_length _ _ _) (by omega))
      clear hA h1
      go_wp2_with fail
      go_ret
      exact ⟨rfl, HA.out, HR.out.1⟩


set_option maxHeartbeats 2000000 in
theorem owners_regs (g o : Nat) (a : Option Addr) (m c : Nat) (es : List Ar) (at_ n : Nat) (w : World) (hg : g < w.heap.size) (hat : at_ ≤ 65535) (hn : n ≤ 65535)
    (h1 : w.cell? ⟨g, o, none⟩ = some (.slice a m c)) (hE : ArsAt w w.heap.size a m c es) :
    Calls Try.prog 66 #[.pointer (some ⟨g, o, none⟩), .int .i64 (at_ : Int), .int .i64 (n : Int)] w (OwnersAt es at_ n w) := by
  have hbig := hE.big
  have hlen := hE.len
  have hmk := make_areas n (by omega)
  have HE := Lib.hid hE
  clear hE
  have hl := zeros_range n 49 w
  have hb0 : Below w.heap.size w (w.alloc (.cells (madeCells #[.int .i64 0, .int .i64 0, .bool false, .bool false, .bool false] (n * 5)) 49)) := (Below.refl _ _).alloc (Nat.le_refl _) _
  have hq0 : (w.alloc (.cells (madeCells #[.int .i64 0, .int .i64 0, .bool false, .bool false, .bool false] (n * 5)) 49)).cell? ⟨g, o, none⟩ = some (.slice a m c) := (hb0.cell (p := ⟨g, o, none⟩) hg).trans h1
  have hs0 : (w.alloc (.cells (madeCells #[.int .i64 0, .int .i64 0, .bool false, .bool false, .bool false] (n * 5)) 49)).heap.size = w.heap.size + 1 := by simp
  have HM := Lib.hid hmk
  clear hmk
  go_enter Try.func66, Try.ntmps66
  have hmk := HM.out
  go_wp2_with fail
  clear hmk
  generalize w.alloc (.cells (madeCells #[.int .i64 0, .int .i64 0, .bool false, .bool false, .bool false] (n * 5)) 49) = W0 at *
  have HL := Lib.hid (And.intro hl (And.intro hb0 hs0))
  clear hl hb0 hq0 hs0
  have hat' : IntKind.i64.wrap ((at_ : Int) + (n : Int)) = (at_ : Int) + (n : Int) := wrap64 (by omega) (by omega)
  go_loopw [18] (fun i wr => ∃ kk : Nat, kk ≤ m ∧ i = .int .i64 (kk : Int) ∧ Hid (Below w.heap.size w wr ∧ Lay wr w.heap.size (ownersN (es.take kk) at_ n))) (fun i _ => m - (intOf i).toNat)
  case atStart => exact ⟨0, by omega, rfl, Lib.hid ⟨HL.out.2.1, by have h := HL.out.1; rwa [show List.replicate n zeroA = ownersN (es.take 0) at_ n by simp [ownersN, own_nil, List.map_const']] at h⟩⟩
  case round =>
    obtain ⟨kk, hk, rfl, HR⟩ := hrel
    by_cases hlt : kk < m
    · have ht : decide ((kk : Int) < (m : Int)) = true := by simp; omega
      obtain ⟨b, off, x, rfl, hb, hx, -, hok, c0, c1, c2, c3, c4⟩ := (HE.out.below HR.out.1 (Nat.le_refl _)).at_ hlt
      have HD : Hid (es.take (kk + 1) = es.take kk ++ [x]) := Lib.hid (by rw [List.take_add_one, hx]; rfl)
      have HO := Lib.hid hok
      clear hx hlen h1
      obtain ⟨a1, a2, m1, m2⟩ := hok
      have i1 : (0 : Int) ≤ (kk : Int) := by omega
      have i2 : (kk : Int) < (m : Int) := by omega
      obtain ⟨k0, hk0⟩ : ∃ k0 : Nat, (if x.at_ > (at_ : Int) then x.at_ else (at_ : Int)) = ((at_ + k0 : Nat) : Int) := by
        split
        · exact ⟨(x.at_ - at_).toNat, by omega⟩
        · exact ⟨0, by omega⟩
      have HK : Hid (((at_ + k0 : Nat) : Int) ≤ 9223372036854775807 ∧ x.at_ ≤ ((at_ + k0 : Nat) : Int) ∧ ∀ j, j < k0 → ((at_ + j : Nat) : Int) < x.at_) := Lib.hid (by
        split at hk0
        · exact ⟨by omega, by omega, fun j hj => by omega⟩
        · exact ⟨by omega, by omega, fun j hj => by omega⟩)
      have HX : Hid (x = ⟨x.at_, x.many, x.read, x.write, x.whole⟩) := Lib.hid rfl
      have HK0 := Lib.hid hk0
      clear hk0
      have hk0 : (if x.at_ > (at_ : Int) then x.at_ else (at_ : Int)) = ((at_ + k0 : Nat) : Int) := HK0.out
      generalize hA : x.at_ = xa at *
      generalize hM : x.many = xm at *
      generalize hR : x.read = xr at *
      generalize hW : x.write = xw at *
      generalize hH : x.whole = xh at *
      have HA := Lib.hid hA
      clear hA hM hR hW hH
      go_wp2_with fail
      have HB0 := Lib.hid ((HR.out.1.alloc HR.out.1.size (.cells #[.int .i64 xa, .int .i64 xm, .bool xr, .bool xw, .bool xh] 49)))
      have HL0 : Hid (Lay (wr.alloc (.cells #[.int .i64 xa, .int .i64 xm, .bool xr, .bool xw, .bool xh] 49)) w.heap.size (midN (es.take kk) x at_ n k0)) := Lib.hid (by
        rw [mid_start (fun j hj => by rw [HA.out]; exact HK.out.2.2 j hj)]
        exact HR.out.2.on ((Below.refl _ _).alloc (Nat.le_refl _) _))
      have HX0 := Lib.hid (heap_alloc_new wr (.cells #[.int .i64 xa, .int .i64 xm, .bool xr, .bool xw, .bool xh] 49))
      have HNE : Hid (wr.heap.size ≠ w.heap.size) := Lib.hid (by have := HR.out.2.lt; omega)
      have hk0' : ((at_ + k0 : Nat) : Int) ≤ 9223372036854775807 := HK.out.1
      have hxa : xa ≤ ((at_ + k0 : Nat) : Int) := HK.out.2.1
      clear c0 c1 c2 c3 c4 hk0 HK0
      generalize wr.heap.size = bx at *
      go_loopw [10] (fun i ww => ∃ k : Nat, k0 ≤ k ∧ ((at_ + k : Nat) : Int) ≤ 9223372036854775807 ∧ i = .int .i64 ((at_ : Int) + (k : Int)) ∧ Hid (Below w.heap.size w ww ∧ Lay ww w.heap.size (midN (es.take kk) x at_ n k) ∧ ww.heap[bx]? = some (.cells #[.int .i64 xa, .int .i64 xm, .bool xr, .bool xw, .bool xh] 49 (0, 0)))) (fun i _ => (((at_ : Int) + (n : Int)) - intOf i).toNat)
      case atStart => exact ⟨k0, Nat.le_refl _, hk0', rfl, Lib.hid ⟨HB0.out, HL0.out, HX0.out⟩⟩
      case round =>
        obtain ⟨k, hk1, hk2, rfl, HW⟩ := hrel
        clear HB0 HL0 HX0
        have hxk : xa ≤ ((at_ + k : Nat) : Int) := by omega
        have hrow := HW.out.2.2
        have hblt : bx < wr.heap.size := (Array.getElem?_eq_some_iff.1 hrow).1
        have d0 := (cell_of_row wr bx 0 _ _ _ hrow)
        have d1 := (cell_of_row wr bx 1 _ _ _ hrow)
        have d2 := (cell_of_row wr bx 2 _ _ _ hrow)
        have d3 := (cell_of_row wr bx 3 _ _ _ hrow)
        have d4 := (cell_of_row wr bx 4 _ _ _ hrow)
        clear hrow
        have e0 : wr.cell? ⟨bx, 0, none⟩ = some (.int .i64 xa) := d0
        have e1 : wr.cell? ⟨bx, 1, none⟩ = some (.int .i64 xm) := d1
        have e2 : wr.cell? ⟨bx, 2, none⟩ = some (.bool xr) := d2
        have e3 : wr.cell? ⟨bx, 3, none⟩ = some (.bool xw) := d3
        have e4 : wr.cell? ⟨bx, 4, none⟩ = some (.bool xh) := d4
        clear d0 d1 d2 d3 d4
        have hcall := has_any x HO.out (at_ + k)
        by_cases hkn : k < n
        · have ht2 : decide ((at_ : Int) + (k : Int) < (at_ : Int) + (n : Int)) = true := by simp; omega
          have hcall := hcall (by omega) wr
          cases hhas : hasN x ((at_ + k : Nat) : Int)
          · rw [hhas, HX.out] at hcall
            have HH := Lib.hid hhas
            have HC := Lib.hid hcall
            clear hhas hcall
            go_wp2_with fail
            refine HC.out.mono ?_
            rintro e w2 ⟨rfl, hb2⟩
            have HB2 := Lib.hid (HW.out.1.trans (hb2.mono HW.out.1.size))
            have HL2 := Lib.hid (HW.out.2.1.on hb2)
            clear hb2
            go_wp2_with fail
            go_roundw
            case rel =>
              refine ⟨kk + 1, by omega, by go_num, Lib.hid ⟨HB2.out, ?_⟩⟩
              rw [HD.out, ← mid_rest (by rw [HA.out]; exact hxk) HH.out]
              exact HL2.out
            case measure => first | omega | (simp [intOf]; omega)
          · rw [hhas, HX.out] at hcall
            have HH := Lib.hid hhas
            have HC := Lib.hid hcall
            clear hhas hcall
            have hmid : (midN (es.take kk) x at_ n k)[k]? = some (ownN (es.take kk) ((at_ + k : Nat) : Int)) := by rw [mid_at hkn, if_neg (by omega)]
            have HMID := Lib.hid hmid
            clear hmid
            have hok := own_ok (es := es.take kk) (fun e he => HE.out.ok e (List.mem_of_mem_take he)) ((at_ + k : Nat) : Int)
            obtain ⟨mm, hmm⟩ : ∃ mm, (ownN (es.take kk) ((at_ + k : Nat) : Int)).many = mm := ⟨_, rfl⟩
            have hmm1 := hok.m1
            have hmm2 := hok.m2
            rw [hmm] at hmm1 hmm2
            have HMM := Lib.hid hmm
            have hw1 : IntKind.i64.wrap ((at_ : Int) + (k : Int) - (at_ : Int)) = (k : Int) := by rw [wrap64 (by omega) (by omega)]; omega
            have j1 : (0 : Int) ≤ (k : Int) := by omega
            have j2 : (k : Int) < (n : Int) := by omega
            clear hok hmm
            go_wp2_with fail
            refine HC.out.mono ?_
            rintro e w2 ⟨rfl, hb2⟩
            have HB2 := Lib.hid (HW.out.1.trans (hb2.mono HW.out.1.size))
            have HL2 := Lib.hid (HW.out.2.1.on hb2)
            have hc2 : w2.cell? ⟨w.heap.size, k * 5 + 1, none⟩ = some (.int .i64 mm) := by
              have h := HL2.out.many HMID.out
              rwa [HMM.out] at h
            have f0 := (hb2.cell (p := ⟨bx, 0, none⟩) hblt).trans e0
            have f1 := (hb2.cell (p := ⟨bx, 1, none⟩) hblt).trans e1
            have f2 := (hb2.cell (p := ⟨bx, 2, none⟩) hblt).trans e2
            have f3 := (hb2.cell (p := ⟨bx, 3, none⟩) hblt).trans e3
            have f4 := (hb2.cell (p := ⟨bx, 4, none⟩) hblt).trans e4
            have HR2 := Lib.hid ((hb2.block bx hblt).trans HW.out.2.2)
            clear hb2 e0 e1 e2 e3 e4
            by_cases hz : mm = 0
            · subst hz
              have hthere : w2.there w.heap.size (k * 5) (#[.int .i64 xa, .int .i64 xm, .bool xr, .bool xw, .bool xh] : Array Value).size := fun j hj => by
                have hj : j < 5 := hj
                have h := HL2.out.free (k * 5 + j) (by rw [mid_length]; omega)
                rwa [Nat.zero_add] at h
              obtain ⟨o0, o1, o2, o3, o4, ⟨q0, z0⟩, ⟨q1, z1⟩, ⟨q2, z2⟩, ⟨q3, z3⟩, ⟨q4, z4⟩⟩ := store5 (show w2.there w.heap.size (k * 5) 5 from hthere) (.int .i64 xa) (.int .i64 xm) (.bool xr) (.bool xw) (.bool xh)
              clear hthere
              go_wp2_with fail
              have HB3 : Hid (Below w.heap.size w (w2.setCells w.heap.size (k * 5) [.int .i64 xa, .int .i64 xm, .bool xr, .bool xw, .bool xh])) := Lib.hid (below_cells (Nat.le_refl _) _ _ _ HB2.out)
              have HL3 : Hid (Lay (w2.setCells w.heap.size (k * 5) [.int .i64 xa, .int .i64 xm, .bool xr, .bool xw, .bool xh]) w.heap.size (midN (es.take kk) x at_ n (k + 1))) := Lib.hid (by
                rw [← mid_hit hkn HMM.out HH.out]
                have h := HL2.out.set (k := k) (by rw [mid_length]; exact hkn) x
                rw [show arCells x = [.int .i64 xa, .int .i64 xm, .bool xr, .bool xw, .bool xh] by rw [HX.out]; rfl] at h
                exact h)
              have HR3 : Hid ((w2.setCells w.heap.size (k * 5) [.int .i64 xa, .int .i64 xm, .bool xr, .bool xw, .bool xh]).heap[bx]? = some (.cells #[.int .i64 xa, .int .i64 xm, .bool xr, .bool xw, .bool xh] 49 (0, 0))) := Lib.hid (by
                have hne : bx ≠ w.heap.size := HNE.out
                rw [heap_cells_other _ hne]
                exact HR2.out)
              have HE3 : w2.setCells w.heap.size (k * 5) [.int .i64 xa, .int .i64 xm, .bool xr, .bool xw, .bool xh] = (((((w2.setCell ⟨w.heap.size, k * 5, none⟩ (.int .i64 xa)).setCell ⟨w.heap.size, k * 5 + 1, none⟩ (.int .i64 xm)).setCell ⟨w.heap.size, k * 5 + 2, none⟩ (.bool xr)).setCell ⟨w.heap.size, k * 5 + 3, none⟩ (.bool xw)).setCell ⟨w.heap.size, k * 5 + 4, none⟩ (.bool xh)) := rfl
              rw [HE3] at HB3 HL3 HR3
              clear HE3 q0 q1 q2 q3 q4 z0 z1 z2 z3 z4 f0 f1 f2 f3 f4
              generalize (((((w2.setCell ⟨w.heap.size, k * 5, none⟩ (.int .i64 xa)).setCell ⟨w.heap.size, k * 5 + 1, none⟩ (.int .i64 xm)).setCell ⟨w.heap.size, k * 5 + 2, none⟩ (.bool xr)).setCell ⟨w.heap.size, k * 5 + 3, none⟩ (.bool xw)).setCell ⟨w.heap.size, k * 5 + 4, none⟩ (.bool xh)) = w3 at *
              go_wp2_with fail
              go_roundw
              case rel =>
                exact ⟨k + 1, by omega, by omega, by go_num, Lib.hid ⟨HB3.out, HL3.out, HR3.out⟩⟩
              case measure => first | omega | (simp [intOf]; omega)
            · have hz2 : (mm == 0) = false := by simpa using hz
              go_wp2_with fail
              go_roundw
              case rel =>
                refine ⟨k + 1, by omega, by omega, by go_num, Lib.hid ⟨HB2.out, ?_, HR2.out⟩⟩
                rw [← mid_keep (by rw [HMM.out]; exact hz)]
                exact HL2.out
              case measure => first | omega | (simp [intOf]; omega)
        · have ht2 : decide ((at_ : Int) + (k : Int) < (at_ : Int) + (n : Int)) = false := by simp; omega
          clear hcall e0 e1 e2 e3 e4
          go_wp2_with fail
          go_roundw
          case rel =>
            refine ⟨kk + 1, by omega, by go_num, Lib.hid ⟨HW.out.1, ?_⟩⟩
            rw [HD.out, ← mid_all (k := k) (by omega)]
            exact HW.out.2.1
          case measure => first | omega | (simp [intOf]; omega)
    · obtain rfl : kk = m := by omega
      have ht : decide ((kk : Int) < (kk : Int)) = false := by simp
      have hA := HR.out.2
      rw [List.take_of_length_le (by omega)] at hA
      have HA := Lib.hid (hA.ars (owners_ok HE.out.ok at_ n) (owners_length _ _ _) (by omega))
      clear hA h1
      go_wp2_with fail
      go_ret
      exact ⟨rfl, HA.out, HR.out.1⟩

end Go.Proofs.Ytamdpinfbadflaa.ModW
/- What may be read, and written; the server's four tables. -/
open Go.RowKit
namespace Go.Proofs.Ytamdpinfbadflaa.ModW
open AskM ReplyM ModM Mem AskW

/-- Where a table lies. -/
def ptr (g : Nat) (k : Option Nat) : Option Addr := k.map fun j => ⟨g, 2 * j, none⟩
theorem hmf : ∀ (fn : Fn) (first cap : Array Value) (w : World), (Instr.makeFunc fn first cap).run Try.prog w = .ok (.func fn first cap) w := fun _ _ _ _ => rfl

theorem enters_written (args : Array Value) (w : World) : (callFunc 32 args).run Try.prog w = .ok (.enter 32 args) w := by
  have h := Try.func32
  unfold callFunc
  rw [Sem.run_bind]
  simp only [run_program, Result.andThen_ok, h]
  have e1 : (Try.f32.name == "runtime.NumGoroutine") = false := by kernel_rfl
  have e2 : Try.f32.body.isNone = false := by kernel_rfl
  rw [e1, e2]
  rfl
theorem enters_unread_bits (args : Array Value) (w : World) : (callFunc 65 args).run Try.prog w = .ok (.enter 65 args) w := by
  have h := Try.func65
  unfold callFunc
  rw [Sem.run_bind]
  simp only [run_program, Result.andThen_ok, h]
  have e1 : (Try.f65.name == "runtime.NumGoroutine") = false := by kernel_rfl
  have e2 : Try.f65.body.isNone = false := by kernel_rfl
  rw [e1, e2]
  rfl
theorem enters_unread_regs (args : Array Value) (w : World) : (callFunc 67 args).run Try.prog w = .ok (.enter 67 args) w := by
  have h := Try.func67
  unfold callFunc
  rw [Sem.run_bind]
  simp only [run_program, Result.andThen_ok, h]
  have e1 : (Try.f67.name == "runtime.NumGoroutine") = false := by kernel_rfl
  have e2 : Try.f67.body.isNone = false := by kernel_rfl
  rw [e1, e2]
  rfl
theorem enters_unwritten_bits (args : Array Value) (w : World) : (callFunc 68 args).run Try.prog w = .ok (.enter 68 args) w := by
  have h := Try.func68
  unfold callFunc
  rw [Sem.run_bind]
  simp only [run_program, Result.andThen_ok, h]
  have e1 : (Try.f68.name == "runtime.NumGoroutine") = false := by kernel_rfl
  have e2 : Try.f68.body.isNone = false := by kernel_rfl
  rw [e1, e2]
  rfl
theorem enters_unwritten_regs (args : Array Value) (w : World) : (callFunc 69 args).run Try.prog w = .ok (.enter 69 args) w := by
  have h := Try.func69
  unfold callFunc
  rw [Sem.run_bind]
  simp only [run_program, Result.andThen_ok, h]
  have e1 : (Try.f69.name == "runtime.NumGoroutine") = false := by kernel_rfl
  have e2 : Try.f69.body.isNone = false := by kernel_rfl
  rw [e1, e2]
  rfl
theorem readable_nil_bits (at_ n : Nat) (w : World) : Calls Try.prog 51 #[.pointer none, .int .i64 (at_ : Int), .int .i64 (n : Int)] w (Says (.bool true) w) := by
  go_enter Try.func51, Try.ntmps51
  go_wp2_with fail
  go_ret
  exact Says.mk (Below.refl _ _)
theorem writable_nil_bits (at_ n : Nat) (w : World) : Calls Try.prog 53 #[.pointer none, .int .i64 (at_ : Int), .int .i64 (n : Int)] w (Says (.bool true) w) := by
  go_enter Try.func53, Try.ntmps53
  go_wp2_with fail
  go_ret
  exact Says.mk (below_two _ _ _)
theorem readable_bits (g o : Nat) (a : Option Addr) (m c : Nat) (es : List Ar) (at_ n : Nat) (w : World) (hg : g < w.heap.size) (hat : at_ ≤ 65535) (hn : n ≤ 65535)
    (h1 : w.cell? ⟨g, o, none⟩ = some (.slice a m c)) (hE : ArsAt w w.heap.size a m c es) :
    Calls Try.prog 51 #[.pointer (some ⟨g, o, none⟩), .int .i64 (at_ : Int), .int .i64 (n : Int)] w (Says (.bool (readableN es at_ n)) w) := by
  have HO := Lib.hid (owners_bits g o a m c es at_ n w hg hat hn h1 hE)
  have HC := Lib.hid (ContainsFunc_any 65 #[] readsA (enters_unread_bits))
  have HP := Lib.hid unread_bits
  clear hE h1
  go_enter Try.func51, Try.ntmps51
  go_wp2_with fail
  refine HO.out.mono ?_
  rintro e w1 ⟨rfl, hA, hb⟩
  have HB := Lib.hid hb
  have HA := Lib.hid hA
  clear hb hA
  go_wp2_with fail
  refine (HC.out _ _ _ _ w1 HA.out (HP.out w1)).mono ?_
  rintro e w2 ⟨rfl, hb⟩
  have HB2 := Lib.hid (HB.out.trans (hb.mono HB.out.size))
  clear hb
  have HV : Hid (readableN es at_ n = !(ownersN es at_ n).any readsA) := Lib.hid rfl
  generalize (ownersN es at_ n).any readsA = v at *
  go_wp2_with fail
  go_ret
  exact says_bool HV.out.symm HB2.out
theorem writable_bits (g o : Nat) (a : Option Addr) (m c : Nat) (es : List Ar) (at_ n : Nat) (w : World) (hg : g < w.heap.size) (hat : at_ ≤ 65535) (hn : n ≤ 65535)
    (h1 : w.cell? ⟨g, o, none⟩ = some (.slice a m c)) (hE : ArsAt w w.heap.size a m c es) :
    Calls Try.prog 53 #[.pointer (some ⟨g, o, none⟩), .int .i64 (at_ : Int), .int .i64 (n : Int)] w (Says (.bool (writableN es at_ n)) w) := by
  have hb0 := below_two w (.cells #[.int .i64 (at_ : Int)] 3) (.cells #[.int .i64 (n : Int)] 3)
  have HO := Lib.hid (owners_bits g o a m c es at_ n _ (Nat.lt_of_lt_of_le hg hb0.size) hat hn ((hb0.cell (p := ⟨g, o, none⟩) hg).trans h1) (hE.on hb0))
  have HB0 := Lib.hid hb0
  have hmf := hmf
  have HC := Lib.hid fun b1 b2 => ContainsFunc_any 68 #[.pointer (some ⟨b1, 0, none⟩), .pointer (some ⟨b2, 0, none⟩)] (writesA at_ n) (enters_unwritten_bits)
  have HP := Lib.hid fun b1 b2 => unwritten_bits b1 b2 at_ n
  have HC1 : Hid (((w.alloc (.cells #[.int .i64 (at_ : Int)] 3)).alloc (.cells #[.int .i64 (n : Int)] 3)).cell? ⟨w.heap.size, 0, none⟩ = some (.int .i64 (at_ : Int))) := Lib.hid (by
    rw [World.cell?_alloc_lt _ _ _ (by simp)]; exact cell_of_row _ _ _ _ _ _ (heap_alloc_new w _))
  have HC2 : Hid (((w.alloc (.cells #[.int .i64 (at_ : Int)] 3)).alloc (.cells #[.int .i64 (n : Int)] 3)).cell? ⟨w.heap.size + 1, 0, none⟩ = some (.int .i64 (n : Int))) := Lib.hid (by
    have h := heap_alloc_new (w.alloc (.cells #[.int .i64 (at_ : Int)] 3)) (.cells #[.int .i64 (n : Int)] 3)
    simp only [World.size_alloc] at h
    exact cell_of_row _ _ _ _ _ _ h)
  have HS : Hid (((w.alloc (.cells #[.int .i64 (at_ : Int)] 3)).alloc (.cells #[.int .i64 (n : Int)] 3)).heap.size = w.heap.size + 1 + 1) := Lib.hid (by simp)
  clear hE h1 hb0
  go_enter Try.func53, Try.ntmps53
  go_wp2_with fail
  refine HO.out.mono ?_
  rintro e w1 ⟨rfl, hA, hb⟩
  have HB := Lib.hid (HB0.out.trans (hb.mono HB0.out.size))
  rw [HS.out] at hA
  have HA := Lib.hid hA
  have hs1 := hb.size
  have hs0 := HS.out
  have hk1 := (hb.cell (p := ⟨w.heap.size, 0, none⟩) (by show w.heap.size < _; omega)).trans HC1.out
  have hk2 := (hb.cell (p := ⟨w.heap.size + 1, 0, none⟩) (by show w.heap.size + 1 < _; omega)).trans HC2.out
  have HPP := Lib.hid (HP.out w.heap.size (w.heap.size + 1) w1 (by omega) (by omega) hk1 hk2)
  clear hb hA hs1 hs0 hk1 hk2
  go_wp2_with fail
  refine (HC.out w.heap.size (w.heap.size + 1) _ _ _ _ w1 HA.out HPP.out).mono ?_
  rintro e w2 ⟨rfl, hb⟩
  have HB2 := Lib.hid (HB.out.trans (hb.mono HB.out.size))
  clear hb
  have HV : Hid (writableN es at_ n = !(ownersN es at_ n).any (writesA at_ n)) := Lib.hid rfl
  generalize (ownersN es at_ n).any (writesA at_ n) = v at *
  go_wp2_with fail
  go_ret
  exact says_bool HV.out.symm HB2.out

theorem readable_nil_regs (at_ n : Nat) (w : World) : Calls Try.prog 52 #[.pointer none, .int .i64 (at_ : Int), .int .i64 (n : Int)] w (Says (.bool true) w) := by
  go_enter Try.func52, Try.ntmps52
  go_wp2_with fail
  go_ret
  exact Says.mk (Below.refl _ _)
theorem writable_nil_regs (at_ n : Nat) (w : World) : Calls Try.prog 54 #[.pointer none, .int .i64 (at_ : Int), .int .i64 (n : Int)] w (Says (.bool true) w) := by
  go_enter Try.func54, Try.ntmps54
  go_wp2_with fail
  go_ret
  exact Says.mk (below_two _ _ _)
theorem readable_regs (g o : Nat) (a : Option Addr) (m c : Nat) (es : List Ar) (at_ n : Nat) (w : World) (hg : g < w.heap.size) (hat : at_ ≤ 65535) (hn : n ≤ 65535)
    (h1 : w.cell? ⟨g, o, none⟩ = some (.slice a m c)) (hE : ArsAt w w.heap.size a m c es) :
    Calls Try.prog 52 #[.pointer (some ⟨g, o, none⟩), .int .i64 (at_ : Int), .int .i64 (n : Int)] w (Says (.bool (readableN es at_ n)) w) := by
  have HO := Lib.hid (owners_regs g o a m c es at_ n w hg hat hn h1 hE)
  have HC := Lib.hid (ContainsFunc_any 67 #[] readsA (enters_unread_regs))
  have HP := Lib.hid unread_regs
  clear hE h1
  go_enter Try.func52, Try.ntmps52
  go_wp2_with fail
  refine HO.out.mono ?_
  rintro e w1 ⟨rfl, hA, hb⟩
  have HB := Lib.hid hb
  have HA := Lib.hid hA
  clear hb hA
  go_wp2_with fail
  refine (HC.out _ _ _ _ w1 HA.out (HP.out w1)).mono ?_
  rintro e w2 ⟨rfl, hb⟩
  have HB2 := Lib.hid (HB.out.trans (hb.mono HB.out.size))
  clear hb
  have HV : Hid (readableN es at_ n = !(ownersN es at_ n).any readsA) := Lib.hid rfl
  generalize (ownersN es at_ n).any readsA = v at *
  go_wp2_with fail
  go_ret
  exact says_bool HV.out.symm HB2.out
theorem writable_regs (g o : Nat) (a : Option Addr) (m c : Nat) (es : List Ar) (at_ n : Nat) (w : World) (hg : g < w.heap.size) (hat : at_ ≤ 65535) (hn : n ≤ 65535)
    (h1 : w.cell? ⟨g, o, none⟩ = some (.slice a m c)) (hE : ArsAt w w.heap.size a m c es) :
    Calls Try.prog 54 #[.pointer (some ⟨g, o, none⟩), .int .i64 (at_ : Int), .int .i64 (n : Int)] w (Says (.bool (writableN es at_ n)) w) := by
  have hb0 := below_two w (.cells #[.int .i64 (at_ : Int)] 3) (.cells #[.int .i64 (n : Int)] 3)
  have HO := Lib.hid (owners_regs g o a m c es at_ n _ (Nat.lt_of_lt_of_le hg hb0.size) hat hn ((hb0.cell (p := ⟨g, o, none⟩) hg).trans h1) (hE.on hb0))
  have HB0 := Lib.hid hb0
  have hmf := hmf
  have HC := Lib.hid fun b1 b2 => ContainsFunc_any 69 #[.pointer (some ⟨b1, 0, none⟩), .pointer (some ⟨b2, 0, none⟩)] (writesA at_ n) (enters_unwritten_regs)
  have HP := Lib.hid fun b1 b2 => unwritten_regs b1 b2 at_ n
  have HC1 : Hid (((w.alloc (.cells #[.int .i64 (at_ : Int)] 3)).alloc (.cells #[.int .i64 (n : Int)] 3)).cell? ⟨w.heap.size, 0, none⟩ = some (.int .i64 (at_ : Int))) := Lib.hid (by
    rw [World.cell?_alloc_lt _ _ _ (by simp)]; exact cell_of_row _ _ _ _ _ _ (heap_alloc_new w _))
  have HC2 : Hid (((w.alloc (.cells #[.int .i64 (at_ : Int)] 3)).alloc (.cells #[.int .i64 (n : Int)] 3)).cell? ⟨w.heap.size + 1, 0, none⟩ = some (.int .i64 (n : Int))) := Lib.hid (by
    have h := heap_alloc_new (w.alloc (.cells #[.int .i64 (at_ : Int)] 3)) (.cells #[.int .i64 (n : Int)] 3)
    simp only [World.size_alloc] at h
    exact cell_of_row _ _ _ _ _ _ h)
  have HS : Hid (((w.alloc (.cells #[.int .i64 (at_ : Int)] 3)).alloc (.cells #[.int .i64 (n : Int)] 3)).heap.size = w.heap.size + 1 + 1) := Lib.hid (by simp)
  clear hE h1 hb0
  go_enter Try.func54, Try.ntmps54
  go_wp2_with fail
  refine HO.out.mono ?_
  rintro e w1 ⟨rfl, hA, hb⟩
  have HB := Lib.hid (HB0.out.trans (hb.mono HB0.out.size))
  rw [HS.out] at hA
  have HA := Lib.hid hA
  have hs1 := hb.size
  have hs0 := HS.out
  have hk1 := (hb.cell (p := ⟨w.heap.size, 0, none⟩) (by show w.heap.size < _; omega)).trans HC1.out
  have hk2 := (hb.cell (p := ⟨w.heap.size + 1, 0, none⟩) (by show w.heap.size + 1 < _; omega)).trans HC2.out
  have HPP := Lib.hid (HP.out w.heap.size (w.heap.size + 1) w1 (by omega) (by omega) hk1 hk2)
  clear hb hA hs1 hs0 hk1 hk2
  go_wp2_with fail
  refine (HC.out w.heap.size (w.heap.size + 1) _ _ _ _ w1 HA.out HPP.out).mono ?_
  rintro e w2 ⟨rfl, hb⟩
  have HB2 := Lib.hid (HB.out.trans (hb.mono HB.out.size))
  clear hb
  have HV : Hid (writableN es at_ n = !(ownersN es at_ n).any (writesA at_ n)) := Lib.hid rfl
  generalize (ownersN es at_ n).any (writesA at_ n) = v at *
  go_wp2_with fail
  go_ret
  exact says_bool HV.out.symm HB2.out

end Go.Proofs.Ytamdpinfbadflaa.ModW
