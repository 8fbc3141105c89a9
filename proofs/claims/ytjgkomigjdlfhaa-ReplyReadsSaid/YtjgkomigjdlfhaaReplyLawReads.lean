/- The law ReplyReads, walked. -/
import Derived.Test.YtjgkomigjdlfhaaReplyAwake
import Derived.Test.YtjgkomigjdlfhaaReplyLim
import Derived.Deep.DeepCutAuto
open Go.RowKit
namespace Go.Proofs.Ytjgkomigjdlfhaa.ReplyW
open AskM ReplyM AskW Mem

theorem fitsW_at (v u : Value) (a : Req) (aw : Option Addr) (cw : Nat) (ab : Option Addr) (cb : Nat) (r : Rep) (rw_ : Option Addr) (dw : Nat) (rb : Option Addr) (db : Nat) (w : World) (hv : v = askV a aw cw ab cb) (hu : u = repV r rw_ dw rb db) (hA : AskAt w w.heap.size a aw cw ab cb) (hR : RepAt w w.heap.size r rw_ dw rb db)
    (hnw : a.words.length ≤ 1000000) (hnb : a.bits.length ≤ 1000000) (hf : a.fn.toNat = 3 ∨ a.fn.toNat = 4 ∨ a.fn.toNat = 23) {z : Bool} (hz : fitsWords a r = z) :
    Calls Try.prog 44 #[v, u] w (Says (.bool z) w) := by
  subst hv hu hz
  exact FitsWords_any a aw cw ab cb r rw_ dw rb db w hA hR hnw hnb hf
theorem u16_of {m : Nat} (h : m < 65536) : ∃ M : UInt16, m = M.toNat := ⟨UInt16.ofNat m, by simp; omega⟩
/-- One bit more. -/
theorem any_next {l : List Bool} {n i : Nat} {x : Bool} (hn : n ≤ i) (h : l[i]? = some x) : anyOn ((l.take (i + 1)).drop n) = (anyOn ((l.take i).drop n) || x) := by
  have h1 : l.take (i + 1) = l.take i ++ [x] := by rw [List.take_add_one, h]; rfl
  have hl : i ≤ l.length := by
    rcases Nat.lt_or_ge i l.length with h2 | h2
    · omega
    · rw [List.getElem?_eq_none h2] at h; cases h
  rw [h1, List.drop_append_of_le_length (by rw [List.length_take]; omega)]
  unfold anyOn
  rw [List.any_append]
  simp


set_option maxRecDepth 100000 in
set_option maxHeartbeats 8000000 in
theorem reads3 (x m : Nat) (aw : Option Addr) (nw cw : Nat) (lw : List UInt16) (ab : Option Addr) (nb cb : Nat) (lb : List Bool) (w : World) (hm : m < 65536) (hW : Sl b16 w w.heap.size aw nw cw lw) (hB : Sl Value.bool w w.heap.size ab nb cb lb) (hlw : nw ≤ 130) (hlb : nb ≤ 2100) (hx : x % 5 = 2) :
    Calls Try.prog 13 #[.int .u8 (x : Int), .int .u16 (m : Int), .slice aw nw cw, .slice ab nb cb] w (Says (.bool true) w) := by
  obtain ⟨M, rfl⟩ := u16_of hm
  have hrem : (x : Int) % 5 = 2 := by omega
  have h1 : decide (130 < (nw : Int)) = false := by simp; omega
  have h2 : decide (2100 < (nb : Int)) = false := by simp; omega
  have hl := hW.len
  have hfit : fitsWords ⟨3, 0, M, 0, [], []⟩ ⟨3, 0, [], lw, 0, 0⟩ = wantW lw.length M.toNat := reads_words (a := ⟨3, 0, M, 0, [], []⟩) (c := 3) rfl (by decide) (lim_plain (c := 3) (most := 125) rfl (by omega) 0 M) lw
  have hlm : lw.length ≤ 1000000 := by omega
  obtain rfl := hl
  have HW := Lib.hid hW
  clear hW hB hx
  by_cases hE : lw.length = M.toNat
  case neg =>
    have e1 : ((lw.length : Int) == (M.toNat : Int)) = false := by simp; omega
    have HZ := Lib.hid (hfit.trans (show wantW lw.length M.toNat = false by unfold wantW; simp; omega))
    clear hfit hlw hlb hE
    go_enter Try.func13, Try.ntmps13
    go_wp2_with fail
    have HBW : Below w.heap.size w (((w.alloc (.cells #[.int .u8 1, .int .u8 2, .int .u8 3, .int .u8 4, .int .u8 23] 5)).alloc (.cells #[.int .u8 3, .int .u16 0, .int .u16 (M.toNat : Int), .int .u16 0, .slice none 0 0, .slice none 0 0] 26)).alloc (.cells #[.int .u8 3, .int .u8 0, .slice none 0 0, .slice aw lw.length cw, .int .u16 0, .int .u16 0] 52)) := ((below_two w _ _).alloc (by simp; omega) _)
    have hRP := (HW.out.below HBW (Nat.le_refl _)).more HBW.size
    generalize (((w.alloc (.cells #[.int .u8 1, .int .u8 2, .int .u8 3, .int .u8 4, .int .u8 23] 5)).alloc (.cells #[.int .u8 3, .int .u16 0, .int .u16 (M.toNat : Int), .int .u16 0, .slice none 0 0, .slice none 0 0] 26)).alloc (.cells #[.int .u8 3, .int .u8 0, .slice none 0 0, .slice aw lw.length cw, .int .u16 0, .int .u16 0] 52)) = WF at *
    refine (fitsW_at _ _ ⟨3, 0, M, 0, [], []⟩ none 0 none 0 ⟨3, 0, [], lw, 0, 0⟩ aw cw none 0 _ rfl rfl ⟨Sl.none_, Sl.none_⟩ ⟨hRP, Sl.none_⟩ (by simp) (by simp) (.inl rfl) HZ.out).mono ?_
    rintro e w1 ⟨rfl, hb⟩
    have HB1 := Lib.hid (HBW.trans (hb.mono HBW.size))
    clear hb hRP
    go_wp2_with fail
    refine (rawake_any _).mono ?_
    rintro e w2 ⟨rfl, hb⟩
    go_wp2_with fail
    go_ret
    exact Says.mk (HB1.out.trans (hb.mono HB1.out.size))
  have e1 : ((lw.length : Int) == (M.toNat : Int)) = true := by simp; omega
  by_cases hlo : 1 ≤ M.toNat
  case neg =>
    have e2 : decide ((1 : Int) ≤ (M.toNat : Int)) = false := by simp; omega
    have HZ := Lib.hid (hfit.trans (show wantW lw.length M.toNat = false by unfold wantW; simp; omega))
    clear hfit hlw hlb hE
    go_enter Try.func13, Try.ntmps13
    go_wp2_with fail
    have HBW : Below w.heap.size w (((w.alloc (.cells #[.int .u8 1, .int .u8 2, .int .u8 3, .int .u8 4, .int .u8 23] 5)).alloc (.cells #[.int .u8 3, .int .u16 0, .int .u16 (M.toNat : Int), .int .u16 0, .slice none 0 0, .slice none 0 0] 26)).alloc (.cells #[.int .u8 3, .int .u8 0, .slice none 0 0, .slice aw lw.length cw, .int .u16 0, .int .u16 0] 52)) := ((below_two w _ _).alloc (by simp; omega) _)
    have hRP := (HW.out.below HBW (Nat.le_refl _)).more HBW.size
    generalize (((w.alloc (.cells #[.int .u8 1, .int .u8 2, .int .u8 3, .int .u8 4, .int .u8 23] 5)).alloc (.cells #[.int .u8 3, .int .u16 0, .int .u16 (M.toNat : Int), .int .u16 0, .slice none 0 0, .slice none 0 0] 26)).alloc (.cells #[.int .u8 3, .int .u8 0, .slice none 0 0, .slice aw lw.length cw, .int .u16 0, .int .u16 0] 52)) = WF at *
    refine (fitsW_at _ _ ⟨3, 0, M, 0, [], []⟩ none 0 none 0 ⟨3, 0, [], lw, 0, 0⟩ aw cw none 0 _ rfl rfl ⟨Sl.none_, Sl.none_⟩ ⟨hRP, Sl.none_⟩ (by simp) (by simp) (.inl rfl) HZ.out).mono ?_
    rintro e w1 ⟨rfl, hb⟩
    have HB1 := Lib.hid (HBW.trans (hb.mono HBW.size))
    clear hb hRP
    go_wp2_with fail
    refine (rawake_any _).mono ?_
    rintro e w2 ⟨rfl, hb⟩
    go_wp2_with fail
    go_ret
    exact Says.mk (HB1.out.trans (hb.mono HB1.out.size))
  have e2 : decide ((1 : Int) ≤ (M.toNat : Int)) = true := by simp; omega
  by_cases hhi : M.toNat ≤ 125
  case neg =>
    have e3 : decide ((M.toNat : Int) ≤ 125) = false := by simp; omega
    have HZ := Lib.hid (hfit.trans (show wantW lw.length M.toNat = false by unfold wantW; simp; omega))
    clear hfit hlw hlb hE
    go_enter Try.func13, Try.ntmps13
    go_wp2_with fail
    have HBW : Below w.heap.size w (((w.alloc (.cells #[.int .u8 1, .int .u8 2, .int .u8 3, .int .u8 4, .int .u8 23] 5)).alloc (.cells #[.int .u8 3, .int .u16 0, .int .u16 (M.toNat : Int), .int .u16 0, .slice none 0 0, .slice none 0 0] 26)).alloc (.cells #[.int .u8 3, .int .u8 0, .slice none 0 0, .slice aw lw.length cw, .int .u16 0, .int .u16 0] 52)) := ((below_two w _ _).alloc (by simp; omega) _)
    have hRP := (HW.out.below HBW (Nat.le_refl _)).more HBW.size
    generalize (((w.alloc (.cells #[.int .u8 1, .int .u8 2, .int .u8 3, .int .u8 4, .int .u8 23] 5)).alloc (.cells #[.int .u8 3, .int .u16 0, .int .u16 (M.toNat : Int), .int .u16 0, .slice none 0 0, .slice none 0 0] 26)).alloc (.cells #[.int .u8 3, .int .u8 0, .slice none 0 0, .slice aw lw.length cw, .int .u16 0, .int .u16 0] 52)) = WF at *
    refine (fitsW_at _ _ ⟨3, 0, M, 0, [], []⟩ none 0 none 0 ⟨3, 0, [], lw, 0, 0⟩ aw cw none 0 _ rfl rfl ⟨Sl.none_, Sl.none_⟩ ⟨hRP, Sl.none_⟩ (by simp) (by simp) (.inl rfl) HZ.out).mono ?_
    rintro e w1 ⟨rfl, hb⟩
    have HB1 := Lib.hid (HBW.trans (hb.mono HBW.size))
    clear hb hRP
    go_wp2_with fail
    refine (rawake_any _).mono ?_
    rintro e w2 ⟨rfl, hb⟩
    go_wp2_with fail
    go_ret
    exact Says.mk (HB1.out.trans (hb.mono HB1.out.size))
  have e3 : decide ((M.toNat : Int) ≤ 125) = true := by simp; omega
  have HZ := Lib.hid (hfit.trans (show wantW lw.length M.toNat = true by unfold wantW; simp; omega))
  clear hfit hlw hlb hE
  go_enter Try.func13, Try.ntmps13
  go_wp2_with fail
  have HBW : Below w.heap.size w (((w.alloc (.cells #[.int .u8 1, .int .u8 2, .int .u8 3, .int .u8 4, .int .u8 23] 5)).alloc (.cells #[.int .u8 3, .int .u16 0, .int .u16 (M.toNat : Int), .int .u16 0, .slice none 0 0, .slice none 0 0] 26)).alloc (.cells #[.int .u8 3, .int .u8 0, .slice none 0 0, .slice aw lw.length cw, .int .u16 0, .int .u16 0] 52)) := ((below_two w _ _).alloc (by simp; omega) _)
  have hRP := (HW.out.below HBW (Nat.le_refl _)).more HBW.size
  generalize (((w.alloc (.cells #[.int .u8 1, .int .u8 2, .int .u8 3, .int .u8 4, .int .u8 23] 5)).alloc (.cells #[.int .u8 3, .int .u16 0, .int .u16 (M.toNat : Int), .int .u16 0, .slice none 0 0, .slice none 0 0] 26)).alloc (.cells #[.int .u8 3, .int .u8 0, .slice none 0 0, .slice aw lw.length cw, .int .u16 0, .int .u16 0] 52)) = WF at *
  refine (fitsW_at _ _ ⟨3, 0, M, 0, [], []⟩ none 0 none 0 ⟨3, 0, [], lw, 0, 0⟩ aw cw none 0 _ rfl rfl ⟨Sl.none_, Sl.none_⟩ ⟨hRP, Sl.none_⟩ (by simp) (by simp) (.inl rfl) HZ.out).mono ?_
  rintro e w1 ⟨rfl, hb⟩
  have HB1 := Lib.hid (HBW.trans (hb.mono HBW.size))
  clear hb hRP
  go_wp2_with fail
  refine (rawake_any _).mono ?_
  rintro e w2 ⟨rfl, hb⟩
  go_wp2_with fail
  go_ret
  exact Says.mk (HB1.out.trans (hb.mono HB1.out.size))
set_option maxRecDepth 100000 in
set_option maxHeartbeats 8000000 in
theorem reads4 (x m : Nat) (aw : Option Addr) (nw cw : Nat) (lw : List UInt16) (ab : Option Addr) (nb cb : Nat) (lb : List Bool) (w : World) (hm : m < 65536) (hW : Sl b16 w w.heap.size aw nw cw lw) (hB : Sl Value.bool w w.heap.size ab nb cb lb) (hlw : nw ≤ 130) (hlb : nb ≤ 2100) (hx : x % 5 = 3) :
    Calls Try.prog 13 #[.int .u8 (x : Int), .int .u16 (m : Int), .slice aw nw cw, .slice ab nb cb] w (Says (.bool true) w) := by
  obtain ⟨M, rfl⟩ := u16_of hm
  have hrem : (x : Int) % 5 = 3 := by omega
  have h1 : decide (130 < (nw : Int)) = false := by simp; omega
  have h2 : decide (2100 < (nb : Int)) = false := by simp; omega
  have hl := hW.len
  have hfit : fitsWords ⟨4, 0, M, 0, [], []⟩ ⟨4, 0, [], lw, 0, 0⟩ = wantW lw.length M.toNat := reads_words (a := ⟨4, 0, M, 0, [], []⟩) (c := 4) rfl (by decide) (lim_plain (c := 4) (most := 125) rfl (by omega) 0 M) lw
  have hlm : lw.length ≤ 1000000 := by omega
  obtain rfl := hl
  have HW := Lib.hid hW
  clear hW hB hx
  by_cases hE : lw.length = M.toNat
  case neg =>
    have e1 : ((lw.length : Int) == (M.toNat : Int)) = false := by simp; omega
    have HZ := Lib.hid (hfit.trans (show wantW lw.length M.toNat = false by unfold wantW; simp; omega))
    clear hfit hlw hlb hE
    go_enter Try.func13, Try.ntmps13
    go_wp2_with fail
    have HBW : Below w.heap.size w (((w.alloc (.cells #[.int .u8 1, .int .u8 2, .int .u8 3, .int .u8 4, .int .u8 23] 5)).alloc (.cells #[.int .u8 4, .int .u16 0, .int .u16 (M.toNat : Int), .int .u16 0, .slice none 0 0, .slice none 0 0] 26)).alloc (.cells #[.int .u8 4, .int .u8 0, .slice none 0 0, .slice aw lw.length cw, .int .u16 0, .int .u16 0] 52)) := ((below_two w _ _).alloc (by simp; omega) _)
    have hRP := (HW.out.below HBW (Nat.le_refl _)).more HBW.size
    generalize (((w.alloc (.cells #[.int .u8 1, .int .u8 2, .int .u8 3, .int .u8 4, .int .u8 23] 5)).alloc (.cells #[.int .u8 4, .int .u16 0, .int .u16 (M.toNat : Int), .int .u16 0, .slice none 0 0, .slice none 0 0] 26)).alloc (.cells #[.int .u8 4, .int .u8 0, .slice none 0 0, .slice aw lw.length cw, .int .u16 0, .int .u16 0] 52)) = WF at *
    refine (fitsW_at _ _ ⟨4, 0, M, 0, [], []⟩ none 0 none 0 ⟨4, 0, [], lw, 0, 0⟩ aw cw none 0 _ rfl rfl ⟨Sl.none_, Sl.none_⟩ ⟨hRP, Sl.none_⟩ (by simp) (by simp) (.inr (.inl rfl)) HZ.out).mono ?_
    rintro e w1 ⟨rfl, hb⟩
    have HB1 := Lib.hid (HBW.trans (hb.mono HBW.size))
    clear hb hRP
    go_wp2_with fail
    refine (rawake_any _).mono ?_
    rintro e w2 ⟨rfl, hb⟩
    go_wp2_with fail
    go_ret
    exact Says.mk (HB1.out.trans (hb.mono HB1.out.size))
  have e1 : ((lw.length : Int) == (M.toNat : Int)) = true := by simp; omega
  by_cases hlo : 1 ≤ M.toNat
  case neg =>
    have e2 : decide ((1 : Int) ≤ (M.toNat : Int)) = false := by simp; omega
    have HZ := Lib.hid (hfit.trans (show wantW lw.length M.toNat = false by unfold wantW; simp; omega))
    clear hfit hlw hlb hE
    go_enter Try.func13, Try.ntmps13
    go_wp2_with fail
    have HBW : Below w.heap.size w (((w.alloc (.cells #[.int .u8 1, .int .u8 2, .int .u8 3, .int .u8 4, .int .u8 23] 5)).alloc (.cells #[.int .u8 4, .int .u16 0, .int .u16 (M.toNat : Int), .int .u16 0, .slice none 0 0, .slice none 0 0] 26)).alloc (.cells #[.int .u8 4, .int .u8 0, .slice none 0 0, .slice aw lw.length cw, .int .u16 0, .int .u16 0] 52)) := ((below_two w _ _).alloc (by simp; omega) _)
    have hRP := (HW.out.below HBW (Nat.le_refl _)).more HBW.size
    generalize (((w.alloc (.cells #[.int .u8 1, .int .u8 2, .int .u8 3, .int .u8 4, .int .u8 23] 5)).alloc (.cells #[.int .u8 4, .int .u16 0, .int .u16 (M.toNat : Int), .int .u16 0, .slice none 0 0, .slice none 0 0] 26)).alloc (.cells #[.int .u8 4, .int .u8 0, .slice none 0 0, .slice aw lw.length cw, .int .u16 0, .int .u16 0] 52)) = WF at *
    refine (fitsW_at _ _ ⟨4, 0, M, 0, [], []⟩ none 0 none 0 ⟨4, 0, [], lw, 0, 0⟩ aw cw none 0 _ rfl rfl ⟨Sl.none_, Sl.none_⟩ ⟨hRP, Sl.none_⟩ (by simp) (by simp) (.inr (.inl rfl)) HZ.out).mono ?_
    rintro e w1 ⟨rfl, hb⟩
    have HB1 := Lib.hid (HBW.trans (hb.mono HBW.size))
    clear hb hRP
    go_wp2_with fail
    refine (rawake_any _).mono ?_
    rintro e w2 ⟨rfl, hb⟩
    go_wp2_with fail
    go_ret
    exact Says.mk (HB1.out.trans (hb.mono HB1.out.size))
  have e2 : decide ((1 : Int) ≤ (M.toNat : Int)) = true := by simp; omega
  by_cases hhi : M.toNat ≤ 125
  case neg =>
    have e3 : decide ((M.toNat : Int) ≤ 125) = false := by simp; omega
    have HZ := Lib.hid (hfit.trans (show wantW lw.length M.toNat = false by unfold wantW; simp; omega))
    clear hfit hlw hlb hE
    go_enter Try.func13, Try.ntmps13
    go_wp2_with fail
    have HBW : Below w.heap.size w (((w.alloc (.cells #[.int .u8 1, .int .u8 2, .int .u8 3, .int .u8 4, .int .u8 23] 5)).alloc (.cells #[.int .u8 4, .int .u16 0, .int .u16 (M.toNat : Int), .int .u16 0, .slice none 0 0, .slice none 0 0] 26)).alloc (.cells #[.int .u8 4, .int .u8 0, .slice none 0 0, .slice aw lw.length cw, .int .u16 0, .int .u16 0] 52)) := ((below_two w _ _).alloc (by simp; omega) _)
    have hRP := (HW.out.below HBW (Nat.le_refl _)).more HBW.size
    generalize (((w.alloc (.cells #[.int .u8 1, .int .u8 2, .int .u8 3, .int .u8 4, .int .u8 23] 5)).alloc (.cells #[.int .u8 4, .int .u16 0, .int .u16 (M.toNat : Int), .int .u16 0, .slice none 0 0, .slice none 0 0] 26)).alloc (.cells #[.int .u8 4, .int .u8 0, .slice none 0 0, .slice aw lw.length cw, .int .u16 0, .int .u16 0] 52)) = WF at *
    refine (fitsW_at _ _ ⟨4, 0, M, 0, [], []⟩ none 0 none 0 ⟨4, 0, [], lw, 0, 0⟩ aw cw none 0 _ rfl rfl ⟨Sl.none_, Sl.none_⟩ ⟨hRP, Sl.none_⟩ (by simp) (by simp) (.inr (.inl rfl)) HZ.out).mono ?_
    rintro e w1 ⟨rfl, hb⟩
    have HB1 := Lib.hid (HBW.trans (hb.mono HBW.size))
    clear hb hRP
    go_wp2_with fail
    refine (rawake_any _).mono ?_
    rintro e w2 ⟨rfl, hb⟩
    go_wp2_with fail
    go_ret
    exact Says.mk (HB1.out.trans (hb.mono HB1.out.size))
  have e3 : decide ((M.toNat : Int) ≤ 125) = true := by simp; omega
  have HZ := Lib.hid (hfit.trans (show wantW lw.length M.toNat = true by unfold wantW; simp; omega))
  clear hfit hlw hlb hE
  go_enter Try.func13, Try.ntmps13
  go_wp2_with fail
  have HBW : Below w.heap.size w (((w.alloc (.cells #[.int .u8 1, .int .u8 2, .int .u8 3, .int .u8 4, .int .u8 23] 5)).alloc (.cells #[.int .u8 4, .int .u16 0, .int .u16 (M.toNat : Int), .int .u16 0, .slice none 0 0, .slice none 0 0] 26)).alloc (.cells #[.int .u8 4, .int .u8 0, .slice none 0 0, .slice aw lw.length cw, .int .u16 0, .int .u16 0] 52)) := ((below_two w _ _).alloc (by simp; omega) _)
  have hRP := (HW.out.below HBW (Nat.le_refl _)).more HBW.size
  generalize (((w.alloc (.cells #[.int .u8 1, .int .u8 2, .int .u8 3, .int .u8 4, .int .u8 23] 5)).alloc (.cells #[.int .u8 4, .int .u16 0, .int .u16 (M.toNat : Int), .int .u16 0, .slice none 0 0, .slice none 0 0] 26)).alloc (.cells #[.int .u8 4, .int .u8 0, .slice none 0 0, .slice aw lw.length cw, .int .u16 0, .int .u16 0] 52)) = WF at *
  refine (fitsW_at _ _ ⟨4, 0, M, 0, [], []⟩ none 0 none 0 ⟨4, 0, [], lw, 0, 0⟩ aw cw none 0 _ rfl rfl ⟨Sl.none_, Sl.none_⟩ ⟨hRP, Sl.none_⟩ (by simp) (by simp) (.inr (.inl rfl)) HZ.out).mono ?_
  rintro e w1 ⟨rfl, hb⟩
  have HB1 := Lib.hid (HBW.trans (hb.mono HBW.size))
  clear hb hRP
  go_wp2_with fail
  refine (rawake_any _).mono ?_
  rintro e w2 ⟨rfl, hb⟩
  go_wp2_with fail
  go_ret
  exact Says.mk (HB1.out.trans (hb.mono HB1.out.size))
set_option maxRecDepth 100000 in
set_option maxHeartbeats 8000000 in
theorem reads23 (x m : Nat) (aw : Option Addr) (nw cw : Nat) (lw : List UInt16) (ab : Option Addr) (nb cb : Nat) (lb : List Bool) (w : World) (hm : m < 65536) (hW : Sl b16 w w.heap.size aw nw cw lw) (hB : Sl Value.bool w w.heap.size ab nb cb lb) (hlw : nw ≤ 130) (hlb : nb ≤ 2100) (hx : x % 5 = 4) :
    Calls Try.prog 13 #[.int .u8 (x : Int), .int .u16 (m : Int), .slice aw nw cw, .slice ab nb cb] w (Says (.bool true) w) := by
  obtain ⟨M, rfl⟩ := u16_of hm
  have hrem : (x : Int) % 5 = 4 := by omega
  have h1 : decide (130 < (nw : Int)) = false := by simp; omega
  have h2 : decide (2100 < (nb : Int)) = false := by simp; omega
  have hl := hW.len
  have hfit : fitsWords ⟨23, 0, M, 0, [7], []⟩ ⟨23, 0, [], lw, 0, 0⟩ = wantW lw.length M.toNat := reads_words (a := ⟨23, 0, M, 0, [7], []⟩) (c := 23) rfl (by decide) (lim_many 0 M 0 7) lw
  have hlm : lw.length ≤ 1000000 := by omega
  obtain rfl := hl
  have HW := Lib.hid hW
  clear hW hB hx
  by_cases hE : lw.length = M.toNat
  case neg =>
    have e1 : ((lw.length : Int) == (M.toNat : Int)) = false := by simp; omega
    have HZ := Lib.hid (hfit.trans (show wantW lw.length M.toNat = false by unfold wantW; simp; omega))
    clear hfit hlw hlb hE
    go_enter Try.func13, Try.ntmps13
    go_wp2_with fail
    have HBW : Below w.heap.size w ((((w.alloc (.cells #[.int .u8 1, .int .u8 2, .int .u8 3, .int .u8 4, .int .u8 23] 5)).alloc (.cells #[.int .u8 23, .int .u16 0, .int .u16 (M.toNat : Int), .int .u16 0, .slice (some ⟨w.heap.size + 1 + 1, 0, none⟩) 1 1, .slice none 0 0] 26)).alloc (.cells #[.int .u16 7] 22)).alloc (.cells #[.int .u8 23, .int .u8 0, .slice none 0 0, .slice aw lw.length cw, .int .u16 0, .int .u16 0] 52)) := (((below_two w _ _).alloc (by simp; omega) _).alloc (by simp; omega) _)
    have hRP := (HW.out.below HBW (Nat.le_refl _)).more HBW.size
    have hW7 : ((((w.alloc (.cells #[.int .u8 1, .int .u8 2, .int .u8 3, .int .u8 4, .int .u8 23] 5)).alloc (.cells #[.int .u8 23, .int .u16 0, .int .u16 (M.toNat : Int), .int .u16 0, .slice (some ⟨w.heap.size + 1 + 1, 0, none⟩) 1 1, .slice none 0 0] 26)).alloc (.cells #[.int .u16 7] 22)).alloc (.cells #[.int .u8 23, .int .u8 0, .slice none 0 0, .slice aw lw.length cw, .int .u16 0, .int .u16 0] 52)).heap[w.heap.size + 1 + 1]? = some (.cells #[.int .u16 7] 22 (0, 0)) := (Below.heap_alloc _ _ _ (by simp)).trans (at_two w _ _ _)
    generalize ((((w.alloc (.cells #[.int .u8 1, .int .u8 2, .int .u8 3, .int .u8 4, .int .u8 23] 5)).alloc (.cells #[.int .u8 23, .int .u16 0, .int .u16 (M.toNat : Int), .int .u16 0, .slice (some ⟨w.heap.size + 1 + 1, 0, none⟩) 1 1, .slice none 0 0] 26)).alloc (.cells #[.int .u16 7] 22)).alloc (.cells #[.int .u8 23, .int .u8 0, .slice none 0 0, .slice aw lw.length cw, .int .u16 0, .int .u16 0] 52)) = WF at *
    refine (fitsW_at _ _ ⟨23, 0, M, 0, [7], []⟩ (some ⟨w.heap.size + 1 + 1, 0, none⟩) 1 none 0 ⟨23, 0, [], lw, 0, 0⟩ aw cw none 0 _ rfl rfl ⟨sl_of_row hW7 rfl rfl (by simp), Sl.none_⟩ ⟨hRP, Sl.none_⟩ (by simp) (by simp) (.inr (.inr rfl)) HZ.out).mono ?_
    rintro e w1 ⟨rfl, hb⟩
    have HB1 := Lib.hid (HBW.trans (hb.mono HBW.size))
    clear hb hRP
    go_wp2_with fail
    refine (rawake_any _).mono ?_
    rintro e w2 ⟨rfl, hb⟩
    go_wp2_with fail
    go_ret
    exact Says.mk (HB1.out.trans (hb.mono HB1.out.size))
  have e1 : ((lw.length : Int) == (M.toNat : Int)) = true := by simp; omega
  by_cases hlo : 1 ≤ M.toNat
  case neg =>
    have e2 : decide ((1 : Int) ≤ (M.toNat : Int)) = false := by simp; omega
    have HZ := Lib.hid (hfit.trans (show wantW lw.length M.toNat = false by unfold wantW; simp; omega))
    clear hfit hlw hlb hE
    go_enter Try.func13, Try.ntmps13
    go_wp2_with fail
    have HBW : Below w.heap.size w ((((w.alloc (.cells #[.int .u8 1, .int .u8 2, .int .u8 3, .int .u8 4, .int .u8 23] 5)).alloc (.cells #[.int .u8 23, .int .u16 0, .int .u16 (M.toNat : Int), .int .u16 0, .slice (some ⟨w.heap.size + 1 + 1, 0, none⟩) 1 1, .slice none 0 0] 26)).alloc (.cells #[.int .u16 7] 22)).alloc (.cells #[.int .u8 23, .int .u8 0, .slice none 0 0, .slice aw lw.length cw, .int .u16 0, .int .u16 0] 52)) := (((below_two w _ _).alloc (by simp; omega) _).alloc (by simp; omega) _)
    have hRP := (HW.out.below HBW (Nat.le_refl _)).more HBW.size
    have hW7 : ((((w.alloc (.cells #[.int .u8 1, .int .u8 2, .int .u8 3, .int .u8 4, .int .u8 23] 5)).alloc (.cells #[.int .u8 23, .int .u16 0, .int .u16 (M.toNat : Int), .int .u16 0, .slice (some ⟨w.heap.size + 1 + 1, 0, none⟩) 1 1, .slice none 0 0] 26)).alloc (.cells #[.int .u16 7] 22)).alloc (.cells #[.int .u8 23, .int .u8 0, .slice none 0 0, .slice aw lw.length cw, .int .u16 0, .int .u16 0] 52)).heap[w.heap.size + 1 + 1]? = some (.cells #[.int .u16 7] 22 (0, 0)) := (Below.heap_alloc _ _ _ (by simp)).trans (at_two w _ _ _)
    generalize ((((w.alloc (.cells #[.int .u8 1, .int .u8 2, .int .u8 3, .int .u8 4, .int .u8 23] 5)).alloc (.cells #[.int .u8 23, .int .u16 0, .int .u16 (M.toNat : Int), .int .u16 0, .slice (some ⟨w.heap.size + 1 + 1, 0, none⟩) 1 1, .slice none 0 0] 26)).alloc (.cells #[.int .u16 7] 22)).alloc (.cells #[.int .u8 23, .int .u8 0, .slice none 0 0, .slice aw lw.length cw, .int .u16 0, .int .u16 0] 52)) = WF at *
    refine (fitsW_at _ _ ⟨23, 0, M, 0, [7], []⟩ (some ⟨w.heap.size + 1 + 1, 0, none⟩) 1 none 0 ⟨23, 0, [], lw, 0, 0⟩ aw cw none 0 _ rfl rfl ⟨sl_of_row hW7 rfl rfl (by simp), Sl.none_⟩ ⟨hRP, Sl.none_⟩ (by simp) (by simp) (.inr (.inr rfl)) HZ.out).mono ?_
    rintro e w1 ⟨rfl, hb⟩
    have HB1 := Lib.hid (HBW.trans (hb.mono HBW.size))
    clear hb hRP
    go_wp2_with fail
    refine (rawake_any _).mono ?_
    rintro e w2 ⟨rfl, hb⟩
    go_wp2_with fail
    go_ret
    exact Says.mk (HB1.out.trans (hb.mono HB1.out.size))
  have e2 : decide ((1 : Int) ≤ (M.toNat : Int)) = true := by simp; omega
  by_cases hhi : M.toNat ≤ 125
  case neg =>
    have e3 : decide ((M.toNat : Int) ≤ 125) = false := by simp; omega
    have HZ := Lib.hid (hfit.trans (show wantW lw.length M.toNat = false by unfold wantW; simp; omega))
    clear hfit hlw hlb hE
    go_enter Try.func13, Try.ntmps13
    go_wp2_with fail
    have HBW : Below w.heap.size w ((((w.alloc (.cells #[.int .u8 1, .int .u8 2, .int .u8 3, .int .u8 4, .int .u8 23] 5)).alloc (.cells #[.int .u8 23, .int .u16 0, .int .u16 (M.toNat : Int), .int .u16 0, .slice (some ⟨w.heap.size + 1 + 1, 0, none⟩) 1 1, .slice none 0 0] 26)).alloc (.cells #[.int .u16 7] 22)).alloc (.cells #[.int .u8 23, .int .u8 0, .slice none 0 0, .slice aw lw.length cw, .int .u16 0, .int .u16 0] 52)) := (((below_two w _ _).alloc (by simp; omega) _).alloc (by simp; omega) _)
    have hRP := (HW.out.below HBW (Nat.le_refl _)).more HBW.size
    have hW7 : ((((w.alloc (.cells #[.int .u8 1, .int .u8 2, .int .u8 3, .int .u8 4, .int .u8 23] 5)).alloc (.cells #[.int .u8 23, .int .u16 0, .int .u16 (M.toNat : Int), .int .u16 0, .slice (some ⟨w.heap.size + 1 + 1, 0, none⟩) 1 1, .slice none 0 0] 26)).alloc (.cells #[.int .u16 7] 22)).alloc (.cells #[.int .u8 23, .int .u8 0, .slice none 0 0, .slice aw lw.length cw, .int .u16 0, .int .u16 0] 52)).heap[w.heap.size + 1 + 1]? = some (.cells #[.int .u16 7] 22 (0, 0)) := (Below.heap_alloc _ _ _ (by simp)).trans (at_two w _ _ _)
    generalize ((((w.alloc (.cells #[.int .u8 1, .int .u8 2, .int .u8 3, .int .u8 4, .int .u8 23] 5)).alloc (.cells #[.int .u8 23, .int .u16 0, .int .u16 (M.toNat : Int), .int .u16 0, .slice (some ⟨w.heap.size + 1 + 1, 0, none⟩) 1 1, .slice none 0 0] 26)).alloc (.cells #[.int .u16 7] 22)).alloc (.cells #[.int .u8 23, .int .u8 0, .slice none 0 0, .slice aw lw.length cw, .int .u16 0, .int .u16 0] 52)) = WF at *
    refine (fitsW_at _ _ ⟨23, 0, M, 0, [7], []⟩ (some ⟨w.heap.size + 1 + 1, 0, none⟩) 1 none 0 ⟨23, 0, [], lw, 0, 0⟩ aw cw none 0 _ rfl rfl ⟨sl_of_row hW7 rfl rfl (by simp), Sl.none_⟩ ⟨hRP, Sl.none_⟩ (by simp) (by simp) (.inr (.inr rfl)) HZ.out).mono ?_
    rintro e w1 ⟨rfl, hb⟩
    have HB1 := Lib.hid (HBW.trans (hb.mono HBW.size))
    clear hb hRP
    go_wp2_with fail
    refine (rawake_any _).mono ?_
    rintro e w2 ⟨rfl, hb⟩
    go_wp2_with fail
    go_ret
    exact Says.mk (HB1.out.trans (hb.mono HB1.out.size))
  have e3 : decide ((M.toNat : Int) ≤ 125) = true := by simp; omega
  have HZ := Lib.hid (hfit.trans (show wantW lw.length M.toNat = true by unfold wantW; simp; omega))
  clear hfit hlw hlb hE
  go_enter Try.func13, Try.ntmps13
  go_wp2_with fail
  have HBW : Below w.heap.size w ((((w.alloc (.cells #[.int .u8 1, .int .u8 2, .int .u8 3, .int .u8 4, .int .u8 23] 5)).alloc (.cells #[.int .u8 23, .int .u16 0, .int .u16 (M.toNat : Int), .int .u16 0, .slice (some ⟨w.heap.size + 1 + 1, 0, none⟩) 1 1, .slice none 0 0] 26)).alloc (.cells #[.int .u16 7] 22)).alloc (.cells #[.int .u8 23, .int .u8 0, .slice none 0 0, .slice aw lw.length cw, .int .u16 0, .int .u16 0] 52)) := (((below_two w _ _).alloc (by simp; omega) _).alloc (by simp; omega) _)
  have hRP := (HW.out.below HBW (Nat.le_refl _)).more HBW.size
  have hW7 : ((((w.alloc (.cells #[.int .u8 1, .int .u8 2, .int .u8 3, .int .u8 4, .int .u8 23] 5)).alloc (.cells #[.int .u8 23, .int .u16 0, .int .u16 (M.toNat : Int), .int .u16 0, .slice (some ⟨w.heap.size + 1 + 1, 0, none⟩) 1 1, .slice none 0 0] 26)).alloc (.cells #[.int .u16 7] 22)).alloc (.cells #[.int .u8 23, .int .u8 0, .slice none 0 0, .slice aw lw.length cw, .int .u16 0, .int .u16 0] 52)).heap[w.heap.size + 1 + 1]? = some (.cells #[.int .u16 7] 22 (0, 0)) := (Below.heap_alloc _ _ _ (by simp)).trans (at_two w _ _ _)
  generalize ((((w.alloc (.cells #[.int .u8 1, .int .u8 2, .int .u8 3, .int .u8 4, .int .u8 23] 5)).alloc (.cells #[.int .u8 23, .int .u16 0, .int .u16 (M.toNat : Int), .int .u16 0, .slice (some ⟨w.heap.size + 1 + 1, 0, none⟩) 1 1, .slice none 0 0] 26)).alloc (.cells #[.int .u16 7] 22)).alloc (.cells #[.int .u8 23, .int .u8 0, .slice none 0 0, .slice aw lw.length cw, .int .u16 0, .int .u16 0] 52)) = WF at *
  refine (fitsW_at _ _ ⟨23, 0, M, 0, [7], []⟩ (some ⟨w.heap.size + 1 + 1, 0, none⟩) 1 none 0 ⟨23, 0, [], lw, 0, 0⟩ aw cw none 0 _ rfl rfl ⟨sl_of_row hW7 rfl rfl (by simp), Sl.none_⟩ ⟨hRP, Sl.none_⟩ (by simp) (by simp) (.inr (.inr rfl)) HZ.out).mono ?_
  rintro e w1 ⟨rfl, hb⟩
  have HB1 := Lib.hid (HBW.trans (hb.mono HBW.size))
  clear hb hRP
  go_wp2_with fail
  refine (rawake_any _).mono ?_
  rintro e w2 ⟨rfl, hb⟩
  go_wp2_with fail
  go_ret
  exact Says.mk (HB1.out.trans (hb.mono HB1.out.size))
end Go.Proofs.Ytjgkomigjdlfhaa.ReplyW
