/- Small parts of reply, as contracts. -/
import Derived.Test.YtamdpinfbadflaaReplyReq
import Derived.Test.YtamdpinfbadflaaAskSame
import Derived.Test.YtamdpinfbadflaaBack
open Go.RowKit
namespace Go.Proofs.Ytamdpinfbadflaa.ReplyW
open AskM ReplyM AskW Mem

abbrev repV (r : Rep) (aw : Option Addr) (cw : Nat) (ab : Option Addr) (cb : Nat) : Value := .agg #[b8 r.fn, b8 r.ex, .slice ab r.bits.length cb, .slice aw r.words.length cw, b16 r.at_, b16 r.many]
/-- The lists of a reply that lie in memory. -/
structure RepAt (w : World) (B : Nat) (r : Rep) (aw : Option Addr) (cw : Nat) (ab : Option Addr) (cb : Nat) : Prop where
  words : Sl b16 w B aw r.words.length cw r.words
  bits : Sl Value.bool w B ab r.bits.length cb r.bits
theorem RepAt.below {w w' : World} {r : Rep} {aw ab : Option Addr} {cw cb : Nat} (h : RepAt w w.heap.size r aw cw ab cb) (hb : Below w.heap.size w w') : RepAt w' w'.heap.size r aw cw ab cb :=
  ⟨(h.words.below hb (Nat.le_refl _)).more hb.size, (h.bits.below hb (Nat.le_refl _)).more hb.size⟩
theorem RepAt.up {w w' : World} {B : Nat} {a : Rep} {aw ab : Option Addr} {cw cb : Nat} (h : RepAt w B a aw cw ab cb) (hb : Below w.heap.size w w') (hB : B ≤ w.heap.size) : RepAt w' w'.heap.size a aw cw ab cb :=
  ⟨(h.words.below hb hB).more (Nat.le_trans hB hb.size), (h.bits.below hb hB).more (Nat.le_trans hB hb.size)⟩
theorem RepAt.two {w : World} {a : Rep} {aw ab : Option Addr} {cw cb : Nat} (h : RepAt w w.heap.size a aw cw ab cb) (o1 o2 : Obj) : RepAt ((w.alloc o1).alloc o2) ((w.alloc o1).alloc o2).heap.size a aw cw ab cb :=
  h.below (((Below.refl _ _).alloc (Nat.le_refl _) _).alloc (by simp) _)
theorem RepAt.nil {w : World} {B : Nat} {r : Rep} (hw : r.words = []) (hb : r.bits = []) : RepAt w B r none 0 none 0 := ⟨by rw [hw]; exact Sl.none_, by rw [hb]; exact Sl.none_⟩

set_option maxHeartbeats 2000000 in
theorem RSame_any (a o : Rep) (aw : Option Addr) (cw : Nat) (ab : Option Addr) (cb : Nat) (ow : Option Addr) (dw : Nat) (ob : Option Addr) (db : Nat) (w : World) (hA : RepAt w w.heap.size a aw cw ab cb) (hO : RepAt w w.heap.size o ow dw ob db) :
    Calls Try.prog 18 #[repV a aw cw ab cb, repV o ow dw ob db] w (Says (.bool (decide (a = o))) w) := by
  have hA2 := fun o1 o2 => hA.two o1 o2
  have hO2 := fun o1 o2 => hO.two o1 o2
  clear hA hO
  obtain ⟨f1, x1, b1, s1, a1, m1⟩ := a
  obtain ⟨f2, x2, b2, s2, a2, m2⟩ := o
  by_cases hf : f1 = f2
  case neg =>
    have hne := ne8 hf
    have HN : Hid (decide ((⟨f1, x1, b1, s1, a1, m1⟩ : Rep) = ⟨f2, x2, b2, s2, a2, m2⟩) = false) := Lib.hid (by simp [hf])
    clear hf
    go_enter Try.func18, Try.ntmps18
    go_wp2_with fail
    go_ret
    exact says_bool HN.out.symm (below_two _ _ _)
  subst hf
  by_cases hx : x1 = x2
  case neg =>
    have hne := ne8 hx
    have HN : Hid (decide ((⟨f1, x1, b1, s1, a1, m1⟩ : Rep) = ⟨f1, x2, b2, s2, a2, m2⟩) = false) := Lib.hid (by simp [hx])
    clear hx
    go_enter Try.func18, Try.ntmps18
    go_wp2_with fail
    go_ret
    exact says_bool HN.out.symm (below_two _ _ _)
  subst hx
  by_cases ha : a1 = a2
  case neg =>
    have hne := ne16 ha
    have HN : Hid (decide ((⟨f1, x1, b1, s1, a1, m1⟩ : Rep) = ⟨f1, x1, b2, s2, a2, m2⟩) = false) := Lib.hid (by simp [ha])
    clear ha
    go_enter Try.func18, Try.ntmps18
    go_wp2_with fail
    go_ret
    exact says_bool HN.out.symm (below_two _ _ _)
  subst ha
  by_cases hm : m1 = m2
  case neg =>
    have hne := ne16 hm
    have HN : Hid (decide ((⟨f1, x1, b1, s1, a1, m1⟩ : Rep) = ⟨f1, x1, b2, s2, a1, m2⟩) = false) := Lib.hid (by simp [hm])
    clear hm
    go_enter Try.func18, Try.ntmps18
    go_wp2_with fail
    go_ret
    exact says_bool HN.out.symm (below_two _ _ _)
  subst hm
  by_cases hb : b1 = b2
  case neg =>
    have HN : Hid (decide ((⟨f1, x1, b1, s1, a1, m1⟩ : Rep) = ⟨f1, x1, b2, s2, a1, m1⟩) = false) := Lib.hid (by simp [hb])
    have HW : Hid (decide (b1 = b2) = false) := Lib.hid (by simp [hb])
    clear hb
    go_enter Try.func18, Try.ntmps18
    go_wp2_with fail
    refine (EqualB_any _ _ _ _ _ _ _ _ _ _ _ (hA2 _ _).bits (hO2 _ _).bits).mono ?_
    intro e w' h
    have hb := h.below
    obtain ⟨rfl, -⟩ := h
    rw [HW.out]
    go_wp2_with fail
    go_ret
    exact says_bool HN.out.symm ((below_two _ _ _).trans (hb.mono (by simp; omega)))
  subst hb
  have hx : ∀ x y : Bool, decide (s1 = s2) = x → Calls Try.prog 18 #[repV ⟨f1, x1, b1, s1, a1, m1⟩ aw cw ab cb, repV ⟨f1, x1, b1, s2, a1, m1⟩ ow dw ob db] w (Says (.bool (decide ((⟨f1, x1, b1, s1, a1, m1⟩ : Rep) = ⟨f1, x1, b1, s2, a1, m1⟩))) w) := by
    intro x y hbb
    have HN : Hid (decide ((⟨f1, x1, b1, s1, a1, m1⟩ : Rep) = ⟨f1, x1, b1, s2, a1, m1⟩) = x) := Lib.hid (by rw [← hbb]; simp)
    have HB := Lib.hid hbb
    clear hbb
    go_enter Try.func18, Try.ntmps18
    go_wp2_with fail
    refine (EqualB_any _ _ _ _ _ _ _ _ _ _ _ (hA2 _ _).bits (hO2 _ _).bits).mono ?_
    intro e w' h
    have hb := (below_two w _ _).trans (h.below.mono (by simp; omega))
    have hA3 := (hA2 _ _).below h.below
    have hO3 := (hO2 _ _).below h.below
    have hc1 := fun o => (h.below.cell (p := ⟨w.heap.size, o, none⟩) (by simp; omega)).trans (World.cell?_alloc_lt _ _ _ (by simp))
    have hc2 := fun o => h.below.cell (p := ⟨w.heap.size + 1, o, none⟩) (by simp)
    obtain ⟨rfl, -⟩ := h
    rw [show decide (b1 = b1) = true by simp]
    have HA := Lib.hid hA3
    have HO := Lib.hid hO3
    have HBB := Lib.hid hb
    clear hA3 hO3 hb hA2 hO2
    go_wp2_with fail
    refine (EqualW_any _ _ _ _ _ _ _ _ _ _ _ HA.out.words HO.out.words).mono ?_
    intro e w'' h
    have hb2 := HBB.out.trans (h.below.mono HBB.out.size)
    obtain ⟨rfl, -⟩ := h
    rw [HB.out]
    clear hc1 hc2
    go_wp2_with fail
    go_ret
    exact says_bool HN.out.symm hb2
  exact hx _ true rfl

theorem rput_any (v : Value) (n : Nat) (bs : List UInt8) (a : Option Addr) (nw cw : Nat) (l : List UInt16) (base : Nat) (w : World) (hown : w.ownsRow base 5 1 v n (bs.map b8))
    (hS : Sl b16 w w.heap.size a nw cw l) (hne : ∀ x : Addr, a = some x → v.ownBlock ≠ some x.block) (hlen : n + 2 * nw ≤ 1000000) (hbase : base ≤ w.heap.size) :
    Calls Try.prog 105 #[v, .slice a nw cw] w (Puts base v (bs ++ putN l) w) := by
  obtain ⟨i0, hi0, hz0, hz1, hz2⟩ := info_parts info8
  have HH := Lib.hid (And.intro hown (And.intro hi0 (And.intro hz0 (And.intro hz1 hz2))))
  clear hown hi0 hz0 hz1 hz2
  go_enter Try.func105, Try.ntmps105
  go_wp2
  go_loopw [0, 9] (fun v1 i wr => ∃ k : Nat, k ≤ nw ∧ i = .int .i64 k ∧ wr.ownsRow base 5 1 v1 (n + 2 * k) ((bs ++ putN (l.take k)).map b8) ∧ Grew w v wr v1) (fun _ i _ => nw - (intOf i).toNat)
  case atStart => exact ⟨0, by omega, rfl, by simpa [putN] using HH.out.1, Grew.refl _ _⟩
  case round =>
    obtain ⟨k, hk, rfl, ho, hg⟩ := hrel
    obtain ⟨-, hi0, hz0, hz1, hz2⟩ := HH.out
    by_cases hlt : k < nw
    · have hl := hS.grew hg hne
      obtain ⟨b, off, x, rfl, hbk, hx, hcell⟩ := hl.at_ hlt
      have HT := Lib.hid (take_put hx)
      have HX := Lib.hid (And.intro hi0 (And.intro hz0 (And.intro hz1 hz2)))
      have HO := Lib.hid ho
      have HG := Lib.hid hg
      have HZ := hg.size
      have hx16 := x.toNat_lt
      have hb : decide ((k : Int) < (nw : Int)) = true := by simp; omega
      clear hx hi0 hz0 hz1 hz2 ho hg hS hl hne
      go_wp2_with (refine wpList_append_vals rfl (.tmp 13) (.tmp 19) 51 rfl base 5 i0 (.int .u8 0) 1 Try.underlying51 HX.out.1 HX.out.2.1 HX.out.2.2.1 HX.out.2.2.2 rfl u0 (n + 2 * k) _ rfl (HO.out.alloc _) ⟨wr.heap.size, 0, none⟩ 2 2 [.int .u8 ((x.toNat : Int) / 256), .int .u8 ((x.toNat : Int) % 256)] rfl rfl (new_cells wr #[.int .u8 ((x.toNat : Int) / 256), .int .u8 ((x.toNat : Int) % 256)] _) ?c1 ?c2 ?c3 ?c4 ?_)
      case c1 => intro u hu; simp at hu; rcases hu with rfl | rfl <;> rfl
      case c2 => unfold maxLen; omega
      case c3 => omega
      case c4 => simp; omega
      intro v' w1 hown' hgrow
      have HO1 := Lib.hid hown'
      have HG1 := Lib.hid hgrow
      clear hown' hgrow
      go_wp2
      go_roundw
      case rel =>
        refine ⟨k + 1, by omega, by go_num, ?_, HG.out.trans HG1.out.alloc⟩
        have h := HO1.out
        rw [hi_val, lo_val] at h
        rw [HT.out, ← List.append_assoc, List.map_append]
        simpa [Nat.mul_add, Nat.add_assoc] using h
      case measure => simp [intOf]; omega
    · obtain rfl : k = nw := by omega
      rw [List.take_of_length_le (by rw [hS.len]; exact Nat.le_refl _)] at ho
      have hb : decide ((k : Int) < (k : Int)) = false := by simp
      clear hi0 hz0 hz1 hz2
      have HO := Lib.hid ho
      have HG := Lib.hid hg
      clear ho hg hS hne
      go_wp2
      go_ret
      exact Puts.mk HO.out HG.out

/-- A reply that holds no lists is answered. -/
theorem mod_val (f : UInt8) : (f.toNat : Int) % 128 = ((f % 128 : UInt8).toNat : Int) := by rw [UInt8.toNat_mod]; rfl
theorem Wrong_any (f x : UInt8) (w : World) :
    Calls Try.prog 22 #[b8 f, b8 x] w (Says (repV (wrongN f x) none 0 none 0) w) := by
  have HM := Lib.hid (mod_val f)
  have h1 := f.toNat_lt
  have h2 := x.toNat_lt
  go_enter Try.func22, Try.ntmps22
  go_wp2_with fail
  refine bodyPost_ret (v := .agg #[.int .u8 ((f.toNat : Int) % 128), .int .u8 (x.toNat : Int), .slice none 0 0, .slice none 0 0, .int .u16 0, .int .u16 0]) (by simp [results, Try.results22, go_sem]) rfl ?_
  rw [HM.out]
  exact ⟨rfl, (Below.refl _ _).alloc (Nat.le_refl _) _⟩
theorem number_any (B : Nat) (a : Option Addr) (n c : Nat) (l : List UInt8) (w : World) (hl : Sl b8 w B a n c l) (h2 : 2 ≤ n) :
    Calls Try.prog 104 #[.slice a n c] w (SaysD (b16 (at16 l 0)) w) := by
  have hn := len_le hl
  obtain ⟨b, off, rfl, hb, hc⟩ := hl.cells (by omega)
  obtain ⟨x, y, r, rfl⟩ : ∃ x y r, l = x :: y :: r := by
    have := hl.len
    rcases l with _ | ⟨x, _ | ⟨y, r⟩⟩ <;> simp at this <;> first | exact ⟨_, _, _, rfl⟩ | omega
  have h0 := hc 0 x rfl
  have h1 := hc 1 y rfl
  rw [Nat.add_zero] at h0
  have hx := x.toNat_lt
  have hy := y.toNat_lt
  have HV : Hid (b16 (at16 (x :: y :: r) 0) = .int .u16 (bits .or .u16 ((x.toNat : Int) * 256) (y.toNat : Int))) := Lib.hid (by rw [or_num]; simp [at16])
  clear hc hl
  rw [HV.out]
  go_enter Try.func104, Try.ntmps104
  go_wp2_with fail
  go_quiet (fail)
  go_wp2_with fail
  go_ret
  exact ⟨rfl, _, rfl⟩
end Go.Proofs.Ytamdpinfbadflaa.ReplyW
