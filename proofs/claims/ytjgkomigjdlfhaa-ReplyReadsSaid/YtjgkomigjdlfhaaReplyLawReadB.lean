/- The law ReplyReads where bits are read, walked. -/
import Derived.Test.YtjgkomigjdlfhaaReplyLawReads
open Go.RowKit
namespace Go.Proofs.Ytjgkomigjdlfhaa.ReplyW
open AskM ReplyM AskW Mem

set_option maxRecDepth 100000 in
set_option maxHeartbeats 8000000 in
theorem reads1 (x m : Nat) (aw : Option Addr) (nw cw : Nat) (lw : List UInt16) (ab : Option Addr) (nb cb : Nat) (lb : List Bool) (w : World) (hm : m < 65536) (hW : Sl b16 w w.heap.size aw nw cw lw) (hB : Sl Value.bool w w.heap.size ab nb cb lb) (hlw : nw ≤ 130) (hlb : nb ≤ 2100) (hx : x % 5 = 0) :
    Calls Try.prog 13 #[.int .u8 (x : Int), .int .u16 (m : Int), .slice aw nw cw, .slice ab nb cb] w (Says (.bool true) w) := by
  obtain ⟨M, rfl⟩ := u16_of hm
  have hrem : (x : Int) % 5 = 0 := by omega
  have h1 : decide (130 < (nw : Int)) = false := by simp; omega
  have h2 : decide (2100 < (nb : Int)) = false := by simp; omega
  have hl := hB.len
  have hfit : fitsBits ⟨1, 0, M, 0, [], []⟩ ⟨1, 0, lb, [], 0, 0⟩ = wantB lb M.toNat := reads_bits (a := ⟨1, 0, M, 0, [], []⟩) (c := 1) rfl (by decide) (lim_plain (c := 1) (most := 2000) rfl (by omega) 0 M) lb
  have hlm : lb.length ≤ 1000000 := by omega
  have hnwm : nw ≤ 1000000 := by omega
  obtain rfl := hl
  have HB := Lib.hid hB
  clear hW hB hx
  by_cases hQ : 1 ≤ M.toNat
  case neg =>
    have q1 : decide ((1 : Int) ≤ (M.toNat : Int)) = false := by simp; omega
    have HZ := Lib.hid (hfit.trans (show wantB lb M.toNat = false by unfold wantB; simp; omega))
    clear hfit hlw hlb hQ
    go_enter Try.func13, Try.ntmps13
    go_wp2_with fail
    all_goals
      go_loop [11, 13] (fun t i => ∃ k : Nat, M.toNat ≤ k ∧ i = .int .i64 k ∧ t = .bool false) (fun _ i => lb.length - (intOf i).toNat)
      case atStart => exact ⟨_, Nat.le_refl _, rfl, rfl⟩
      case round =>
        obtain ⟨k, hk, rfl, rfl⟩ := hrel
        by_cases hlt : k < lb.length
        · have ht : decide ((k : Int) < (lb.length : Int)) = true := by simp; omega
          go_wp2_with fail
          go_round
          case rel => exact ⟨k + 1, by omega, by go_num, rfl⟩
          case measure => simp [intOf]; omega
        · have ht : decide ((k : Int) < (lb.length : Int)) = false := by simp; omega
          go_wp2_with fail
          have HBW : Below w.heap.size w (((w.alloc (.cells #[.int .u8 1, .int .u8 2, .int .u8 3, .int .u8 4, .int .u8 23] 5)).alloc (.cells #[.int .u8 1, .int .u16 0, .int .u16 (M.toNat : Int), .int .u16 0, .slice none 0 0, .slice none 0 0] 26)).alloc (.cells #[.int .u8 1, .int .u8 0, .slice ab lb.length cb, .slice none 0 0, .int .u16 0, .int .u16 0] 52)) := ((below_two w _ _).alloc (by simp; omega) _)
          have hRP := (HB.out.below HBW (Nat.le_refl _)).more HBW.size
          generalize (((w.alloc (.cells #[.int .u8 1, .int .u8 2, .int .u8 3, .int .u8 4, .int .u8 23] 5)).alloc (.cells #[.int .u8 1, .int .u16 0, .int .u16 (M.toNat : Int), .int .u16 0, .slice none 0 0, .slice none 0 0] 26)).alloc (.cells #[.int .u8 1, .int .u8 0, .slice ab lb.length cb, .slice none 0 0, .int .u16 0, .int .u16 0] 52)) = WF at *
          refine (fits_at _ _ ⟨1, 0, M, 0, [], []⟩ none 0 none 0 ⟨1, 0, lb, [], 0, 0⟩ none 0 ab cb _ rfl rfl ⟨Sl.none_, Sl.none_⟩ ⟨Sl.none_, hRP⟩ (by simp) (by simp) (.inl rfl) HZ.out).mono ?_
          rintro e w1 ⟨rfl, hb⟩
          have HB1 := Lib.hid (HBW.trans (hb.mono HBW.size))
          clear hb hRP HBW
          go_wp2_with fail
          refine (rawake_any _).mono ?_
          rintro e w2 ⟨rfl, hb⟩
          go_wp2_with fail
          go_ret
          exact Says.mk (HB1.out.trans (hb.mono HB1.out.size))
  have q1 : decide ((1 : Int) ≤ (M.toNat : Int)) = true := by simp; omega
  have hlo := hQ
  clear hQ
  by_cases hQ : M.toNat ≤ 2000
  case neg =>
    have q2 : decide ((M.toNat : Int) ≤ 2000) = false := by simp; omega
    have HZ := Lib.hid (hfit.trans (show wantB lb M.toNat = false by unfold wantB; simp; omega))
    clear hfit hlw hlb hQ
    go_enter Try.func13, Try.ntmps13
    go_wp2_with fail
    all_goals
      go_loop [11, 13] (fun t i => ∃ k : Nat, M.toNat ≤ k ∧ i = .int .i64 k ∧ t = .bool false) (fun _ i => lb.length - (intOf i).toNat)
      case atStart => exact ⟨_, Nat.le_refl _, rfl, rfl⟩
      case round =>
        obtain ⟨k, hk, rfl, rfl⟩ := hrel
        by_cases hlt : k < lb.length
        · have ht : decide ((k : Int) < (lb.length : Int)) = true := by simp; omega
          go_wp2_with fail
          go_round
          case rel => exact ⟨k + 1, by omega, by go_num, rfl⟩
          case measure => simp [intOf]; omega
        · have ht : decide ((k : Int) < (lb.length : Int)) = false := by simp; omega
          go_wp2_with fail
          have HBW : Below w.heap.size w (((w.alloc (.cells #[.int .u8 1, .int .u8 2, .int .u8 3, .int .u8 4, .int .u8 23] 5)).alloc (.cells #[.int .u8 1, .int .u16 0, .int .u16 (M.toNat : Int), .int .u16 0, .slice none 0 0, .slice none 0 0] 26)).alloc (.cells #[.int .u8 1, .int .u8 0, .slice ab lb.length cb, .slice none 0 0, .int .u16 0, .int .u16 0] 52)) := ((below_two w _ _).alloc (by simp; omega) _)
          have hRP := (HB.out.below HBW (Nat.le_refl _)).more HBW.size
          generalize (((w.alloc (.cells #[.int .u8 1, .int .u8 2, .int .u8 3, .int .u8 4, .int .u8 23] 5)).alloc (.cells #[.int .u8 1, .int .u16 0, .int .u16 (M.toNat : Int), .int .u16 0, .slice none 0 0, .slice none 0 0] 26)).alloc (.cells #[.int .u8 1, .int .u8 0, .slice ab lb.length cb, .slice none 0 0, .int .u16 0, .int .u16 0] 52)) = WF at *
          refine (fits_at _ _ ⟨1, 0, M, 0, [], []⟩ none 0 none 0 ⟨1, 0, lb, [], 0, 0⟩ none 0 ab cb _ rfl rfl ⟨Sl.none_, Sl.none_⟩ ⟨Sl.none_, hRP⟩ (by simp) (by simp) (.inl rfl) HZ.out).mono ?_
          rintro e w1 ⟨rfl, hb⟩
          have HB1 := Lib.hid (HBW.trans (hb.mono HBW.size))
          clear hb hRP HBW
          go_wp2_with fail
          refine (rawake_any _).mono ?_
          rintro e w2 ⟨rfl, hb⟩
          go_wp2_with fail
          go_ret
          exact Says.mk (HB1.out.trans (hb.mono HB1.out.size))
  have q2 : decide ((M.toNat : Int) ≤ 2000) = true := by simp; omega
  have hhi := hQ
  clear hQ
  by_cases hQ : lb.length = (M.toNat + 7) / 8 * 8
  case neg =>
    have q3 : ((lb.length : Int) == ((M.toNat : Int) + 7) / 8 * 8) = false := by simp; omega
    have HZ := Lib.hid (hfit.trans (show wantB lb M.toNat = false by unfold wantB; simp; omega))
    clear hfit hlw hlb hQ
    go_enter Try.func13, Try.ntmps13
    go_wp2_with fail
    all_goals
      go_loop [11, 13] (fun t i => ∃ k : Nat, M.toNat ≤ k ∧ i = .int .i64 k ∧ t = .bool false) (fun _ i => lb.length - (intOf i).toNat)
      case atStart => exact ⟨_, Nat.le_refl _, rfl, rfl⟩
      case round =>
        obtain ⟨k, hk, rfl, rfl⟩ := hrel
        by_cases hlt : k < lb.length
        · have ht : decide ((k : Int) < (lb.length : Int)) = true := by simp; omega
          go_wp2_with fail
          go_round
          case rel => exact ⟨k + 1, by omega, by go_num, rfl⟩
          case measure => simp [intOf]; omega
        · have ht : decide ((k : Int) < (lb.length : Int)) = false := by simp; omega
          go_wp2_with fail
          have HBW : Below w.heap.size w (((w.alloc (.cells #[.int .u8 1, .int .u8 2, .int .u8 3, .int .u8 4, .int .u8 23] 5)).alloc (.cells #[.int .u8 1, .int .u16 0, .int .u16 (M.toNat : Int), .int .u16 0, .slice none 0 0, .slice none 0 0] 26)).alloc (.cells #[.int .u8 1, .int .u8 0, .slice ab lb.length cb, .slice none 0 0, .int .u16 0, .int .u16 0] 52)) := ((below_two w _ _).alloc (by simp; omega) _)
          have hRP := (HB.out.below HBW (Nat.le_refl _)).more HBW.size
          generalize (((w.alloc (.cells #[.int .u8 1, .int .u8 2, .int .u8 3, .int .u8 4, .int .u8 23] 5)).alloc (.cells #[.int .u8 1, .int .u16 0, .int .u16 (M.toNat : Int), .int .u16 0, .slice none 0 0, .slice none 0 0] 26)).alloc (.cells #[.int .u8 1, .int .u8 0, .slice ab lb.length cb, .slice none 0 0, .int .u16 0, .int .u16 0] 52)) = WF at *
          refine (fits_at _ _ ⟨1, 0, M, 0, [], []⟩ none 0 none 0 ⟨1, 0, lb, [], 0, 0⟩ none 0 ab cb _ rfl rfl ⟨Sl.none_, Sl.none_⟩ ⟨Sl.none_, hRP⟩ (by simp) (by simp) (.inl rfl) HZ.out).mono ?_
          rintro e w1 ⟨rfl, hb⟩
          have HB1 := Lib.hid (HBW.trans (hb.mono HBW.size))
          clear hb hRP HBW
          go_wp2_with fail
          refine (rawake_any _).mono ?_
          rintro e w2 ⟨rfl, hb⟩
          go_wp2_with fail
          go_ret
          exact Says.mk (HB1.out.trans (hb.mono HB1.out.size))
  have q3 : ((lb.length : Int) == ((M.toNat : Int) + 7) / 8 * 8) = true := by simp; omega
  obtain ⟨zz, hzz⟩ : ∃ zz, (!anyOn (lb.drop M.toNat)) = zz := ⟨_, rfl⟩
  have HZ := Lib.hid (hfit.trans (show wantB lb M.toNat = zz by unfold wantB; simp [hQ, hlo, hhi, ← hzz]))
  have HZZ := Lib.hid hzz
  have hnk : M.toNat ≤ lb.length := by omega
  clear hfit hlw hlb hQ hzz
  go_enter Try.func13, Try.ntmps13
  go_wp2_with fail
  all_goals
    go_loop [11, 13] (fun t i => ∃ k : Nat, M.toNat ≤ k ∧ k ≤ lb.length ∧ i = .int .i64 k ∧ t = .bool (!anyOn ((lb.take k).drop M.toNat))) (fun _ i => lb.length - (intOf i).toNat)
    case atStart => exact ⟨_, Nat.le_refl _, hnk, rfl, by simp [anyOn]⟩
    case round =>
      obtain ⟨k, hk, hk2, rfl, rfl⟩ := hrel
      obtain ⟨z, hz⟩ : ∃ z, anyOn ((lb.take k).drop M.toNat) = z := ⟨_, rfl⟩
      rw [hz]
      by_cases hlt : k < lb.length
      · have ht : decide ((k : Int) < (lb.length : Int)) = true := by simp; omega
        obtain ⟨bb, off, y, rfl, hbb, hy, hc⟩ := HB.out.at_ hlt
        have HN := Lib.hid (any_next hk hy)
        rw [hz] at HN
        have hc2 := fun o1 o2 o3 => (((below_two w o1 o2).alloc (by simp; omega) o3).cell (p := ⟨bb, off + k, none⟩) hbb).trans hc
        clear hz hy hc
        cases z <;> cases y
        all_goals
          go_wp2_with fail
          go_round
          case rel => exact ⟨k + 1, by omega, by omega, by go_num, by rw [HN.out]; rfl⟩
          case measure => simp [intOf]; omega
      · obtain rfl : k = lb.length := by omega
        have ht : decide ((lb.length : Int) < (lb.length : Int)) = false := by simp
        have hze : (!z) = zz := by rw [← HZZ.out, ← hz, List.take_length]
        rw [hze]
        clear hz hze
        go_wp2_with fail
        have HBW : Below w.heap.size w (((w.alloc (.cells #[.int .u8 1, .int .u8 2, .int .u8 3, .int .u8 4, .int .u8 23] 5)).alloc (.cells #[.int .u8 1, .int .u16 0, .int .u16 (M.toNat : Int), .int .u16 0, .slice none 0 0, .slice none 0 0] 26)).alloc (.cells #[.int .u8 1, .int .u8 0, .slice ab lb.length cb, .slice none 0 0, .int .u16 0, .int .u16 0] 52)) := ((below_two w _ _).alloc (by simp; omega) _)
        have hRP := (HB.out.below HBW (Nat.le_refl _)).more HBW.size
        generalize (((w.alloc (.cells #[.int .u8 1, .int .u8 2, .int .u8 3, .int .u8 4, .int .u8 23] 5)).alloc (.cells #[.int .u8 1, .int .u16 0, .int .u16 (M.toNat : Int), .int .u16 0, .slice none 0 0, .slice none 0 0] 26)).alloc (.cells #[.int .u8 1, .int .u8 0, .slice ab lb.length cb, .slice none 0 0, .int .u16 0, .int .u16 0] 52)) = WF at *
        refine (fits_at _ _ ⟨1, 0, M, 0, [], []⟩ none 0 none 0 ⟨1, 0, lb, [], 0, 0⟩ none 0 ab cb _ rfl rfl ⟨Sl.none_, Sl.none_⟩ ⟨Sl.none_, hRP⟩ (by simp) (by simp) (.inl rfl) HZ.out).mono ?_
        rintro e w1 ⟨rfl, hb⟩
        have HB1 := Lib.hid (HBW.trans (hb.mono HBW.size))
        clear hb hRP HBW
        go_wp2_with fail
        refine (rawake_any _).mono ?_
        rintro e w2 ⟨rfl, hb⟩
        go_wp2_with fail
        go_ret
        exact Says.mk (HB1.out.trans (hb.mono HB1.out.size))
set_option maxRecDepth 100000 in
set_option maxHeartbeats 8000000 in
theorem reads2 (x m : Nat) (aw : Option Addr) (nw cw : Nat) (lw : List UInt16) (ab : Option Addr) (nb cb : Nat) (lb : List Bool) (w : World) (hm : m < 65536) (hW : Sl b16 w w.heap.size aw nw cw lw) (hB : Sl Value.bool w w.heap.size ab nb cb lb) (hlw : nw ≤ 130) (hlb : nb ≤ 2100) (hx : x % 5 = 1) :
    Calls Try.prog 13 #[.int .u8 (x : Int), .int .u16 (m : Int), .slice aw nw cw, .slice ab nb cb] w (Says (.bool true) w) := by
  obtain ⟨M, rfl⟩ := u16_of hm
  have hrem : (x : Int) % 5 = 1 := by omega
  have h1 : decide (130 < (nw : Int)) = false := by simp; omega
  have h2 : decide (2100 < (nb : Int)) = false := by simp; omega
  have hl := hB.len
  have hfit : fitsBits ⟨2, 0, M, 0, [], []⟩ ⟨2, 0, lb, [], 0, 0⟩ = wantB lb M.toNat := reads_bits (a := ⟨2, 0, M, 0, [], []⟩) (c := 2) rfl (by decide) (lim_plain (c := 2) (most := 2000) rfl (by omega) 0 M) lb
  have hlm : lb.length ≤ 1000000 := by omega
  have hnwm : nw ≤ 1000000 := by omega
  obtain rfl := hl
  have HB := Lib.hid hB
  clear hW hB hx
  by_cases hQ : 1 ≤ M.toNat
  case neg =>
    have q1 : decide ((1 : Int) ≤ (M.toNat : Int)) = false := by simp; omega
    have HZ := Lib.hid (hfit.trans (show wantB lb M.toNat = false by unfold wantB; simp; omega))
    clear hfit hlw hlb hQ
    go_enter Try.func13, Try.ntmps13
    go_wp2_with fail
    all_goals
      go_loop [11, 13] (fun t i => ∃ k : Nat, M.toNat ≤ k ∧ i = .int .i64 k ∧ t = .bool false) (fun _ i => lb.length - (intOf i).toNat)
      case atStart => exact ⟨_, Nat.le_refl _, rfl, rfl⟩
      case round =>
        obtain ⟨k, hk, rfl, rfl⟩ := hrel
        by_cases hlt : k < lb.length
        · have ht : decide ((k : Int) < (lb.length : Int)) = true := by simp; omega
          go_wp2_with fail
          go_round
          case rel => exact ⟨k + 1, by omega, by go_num, rfl⟩
          case measure => simp [intOf]; omega
        · have ht : decide ((k : Int) < (lb.length : Int)) = false := by simp; omega
          go_wp2_with fail
          have HBW : Below w.heap.size w (((w.alloc (.cells #[.int .u8 1, .int .u8 2, .int .u8 3, .int .u8 4, .int .u8 23] 5)).alloc (.cells #[.int .u8 2, .int .u16 0, .int .u16 (M.toNat : Int), .int .u16 0, .slice none 0 0, .slice none 0 0] 26)).alloc (.cells #[.int .u8 2, .int .u8 0, .slice ab lb.length cb, .slice none 0 0, .int .u16 0, .int .u16 0] 52)) := ((below_two w _ _).alloc (by simp; omega) _)
          have hRP := (HB.out.below HBW (Nat.le_refl _)).more HBW.size
          generalize (((w.alloc (.cells #[.int .u8 1, .int .u8 2, .int .u8 3, .int .u8 4, .int .u8 23] 5)).alloc (.cells #[.int .u8 2, .int .u16 0, .int .u16 (M.toNat : Int), .int .u16 0, .slice none 0 0, .slice none 0 0] 26)).alloc (.cells #[.int .u8 2, .int .u8 0, .slice ab lb.length cb, .slice none 0 0, .int .u16 0, .int .u16 0] 52)) = WF at *
          refine (fits_at _ _ ⟨2, 0, M, 0, [], []⟩ none 0 none 0 ⟨2, 0, lb, [], 0, 0⟩ none 0 ab cb _ rfl rfl ⟨Sl.none_, Sl.none_⟩ ⟨Sl.none_, hRP⟩ (by simp) (by simp) (.inr rfl) HZ.out).mono ?_
          rintro e w1 ⟨rfl, hb⟩
          have HB1 := Lib.hid (HBW.trans (hb.mono HBW.size))
          clear hb hRP HBW
          go_wp2_with fail
          refine (rawake_any _).mono ?_
          rintro e w2 ⟨rfl, hb⟩
          go_wp2_with fail
          go_ret
          exact Says.mk (HB1.out.trans (hb.mono HB1.out.size))
  have q1 : decide ((1 : Int) ≤ (M.toNat : Int)) = true := by simp; omega
  have hlo := hQ
  clear hQ
  by_cases hQ : M.toNat ≤ 2000
  case neg =>
    have q2 : decide ((M.toNat : Int) ≤ 2000) = false := by simp; omega
    have HZ := Lib.hid (hfit.trans (show wantB lb M.toNat = false by unfold wantB; simp; omega))
    clear hfit hlw hlb hQ
    go_enter Try.func13, Try.ntmps13
    go_wp2_with fail
    all_goals
      go_loop [11, 13] (fun t i => ∃ k : Nat, M.toNat ≤ k ∧ i = .int .i64 k ∧ t = .bool false) (fun _ i => lb.length - (intOf i).toNat)
      case atStart => exact ⟨_, Nat.le_refl _, rfl, rfl⟩
      case round =>
        obtain ⟨k, hk, rfl, rfl⟩ := hrel
        by_cases hlt : k < lb.length
        · have ht : decide ((k : Int) < (lb.length : Int)) = true := by simp; omega
          go_wp2_with fail
          go_round
          case rel => exact ⟨k + 1, by omega, by go_num, rfl⟩
          case measure => simp [intOf]; omega
        · have ht : decide ((k : Int) < (lb.length : Int)) = false := by simp; omega
          go_wp2_with fail
          have HBW : Below w.heap.size w (((w.alloc (.cells #[.int .u8 1, .int .u8 2, .int .u8 3, .int .u8 4, .int .u8 23] 5)).alloc (.cells #[.int .u8 2, .int .u16 0, .int .u16 (M.toNat : Int), .int .u16 0, .slice none 0 0, .slice none 0 0] 26)).alloc (.cells #[.int .u8 2, .int .u8 0, .slice ab lb.length cb, .slice none 0 0, .int .u16 0, .int .u16 0] 52)) := ((below_two w _ _).alloc (by simp; omega) _)
          have hRP := (HB.out.below HBW (Nat.le_refl _)).more HBW.size
          generalize (((w.alloc (.cells #[.int .u8 1, .int .u8 2, .int .u8 3, .int .u8 4, .int .u8 23] 5)).alloc (.cells #[.int .u8 2, .int .u16 0, .int .u16 (M.toNat : Int), .int .u16 0, .slice none 0 0, .slice none 0 0] 26)).alloc (.cells #[.int .u8 2, .int .u8 0, .slice ab lb.length cb, .slice none 0 0, .int .u16 0, .int .u16 0] 52)) = WF at *
          refine (fits_at _ _ ⟨2, 0, M, 0, [], []⟩ none 0 none 0 ⟨2, 0, lb, [], 0, 0⟩ none 0 ab cb _ rfl rfl ⟨Sl.none_, Sl.none_⟩ ⟨Sl.none_, hRP⟩ (by simp) (by simp) (.inr rfl) HZ.out).mono ?_
          rintro e w1 ⟨rfl, hb⟩
          have HB1 := Lib.hid (HBW.trans (hb.mono HBW.size))
          clear hb hRP HBW
          go_wp2_with fail
          refine (rawake_any _).mono ?_
          rintro e w2 ⟨rfl, hb⟩
          go_wp2_with fail
          go_ret
          exact Says.mk (HB1.out.trans (hb.mono HB1.out.size))
  have q2 : decide ((M.toNat : Int) ≤ 2000) = true := by simp; omega
  have hhi := hQ
  clear hQ
  by_cases hQ : lb.length = (M.toNat + 7) / 8 * 8
  case neg =>
    have q3 : ((lb.length : Int) == ((M.toNat : Int) + 7) / 8 * 8) = false := by simp; omega
    have HZ := Lib.hid (hfit.trans (show wantB lb M.toNat = false by unfold wantB; simp; omega))
    clear hfit hlw hlb hQ
    go_enter Try.func13, Try.ntmps13
    go_wp2_with fail
    all_goals
      go_loop [11, 13] (fun t i => ∃ k : Nat, M.toNat ≤ k ∧ i = .int .i64 k ∧ t = .bool false) (fun _ i => lb.length - (intOf i).toNat)
      case atStart => exact ⟨_, Nat.le_refl _, rfl, rfl⟩
      case round =>
        obtain ⟨k, hk, rfl, rfl⟩ := hrel
        by_cases hlt : k < lb.length
        · have ht : decide ((k : Int) < (lb.length : Int)) = true := by simp; omega
          go_wp2_with fail
          go_round
          case rel => exact ⟨k + 1, by omega, by go_num, rfl⟩
          case measure => simp [intOf]; omega
        · have ht : decide ((k : Int) < (lb.length : Int)) = false := by simp; omega
          go_wp2_with fail
          have HBW : Below w.heap.size w (((w.alloc (.cells #[.int .u8 1, .int .u8 2, .int .u8 3, .int .u8 4, .int .u8 23] 5)).alloc (.cells #[.int .u8 2, .int .u16 0, .int .u16 (M.toNat : Int), .int .u16 0, .slice none 0 0, .slice none 0 0] 26)).alloc (.cells #[.int .u8 2, .int .u8 0, .slice ab lb.length cb, .slice none 0 0, .int .u16 0, .int .u16 0] 52)) := ((below_two w _ _).alloc (by simp; omega) _)
          have hRP := (HB.out.below HBW (Nat.le_refl _)).more HBW.size
          generalize (((w.alloc (.cells #[.int .u8 1, .int .u8 2, .int .u8 3, .int .u8 4, .int .u8 23] 5)).alloc (.cells #[.int .u8 2, .int .u16 0, .int .u16 (M.toNat : Int), .int .u16 0, .slice none 0 0, .slice none 0 0] 26)).alloc (.cells #[.int .u8 2, .int .u8 0, .slice ab lb.length cb, .slice none 0 0, .int .u16 0, .int .u16 0] 52)) = WF at *
          refine (fits_at _ _ ⟨2, 0, M, 0, [], []⟩ none 0 none 0 ⟨2, 0, lb, [], 0, 0⟩ none 0 ab cb _ rfl rfl ⟨Sl.none_, Sl.none_⟩ ⟨Sl.none_, hRP⟩ (by simp) (by simp) (.inr rfl) HZ.out).mono ?_
          rintro e w1 ⟨rfl, hb⟩
          have HB1 := Lib.hid (HBW.trans (hb.mono HBW.size))
          clear hb hRP HBW
          go_wp2_with fail
          refine (rawake_any _).mono ?_
          rintro e w2 ⟨rfl, hb⟩
          go_wp2_with fail
          go_ret
          exact Says.mk (HB1.out.trans (hb.mono HB1.out.size))
  have q3 : ((lb.length : Int) == ((M.toNat : Int) + 7) / 8 * 8) = true := by simp; omega
  obtain ⟨zz, hzz⟩ : ∃ zz, (!anyOn (lb.drop M.toNat)) = zz := ⟨_, rfl⟩
  have HZ := Lib.hid (hfit.trans (show wantB lb M.toNat = zz by unfold wantB; simp [hQ, hlo, hhi, ← hzz]))
  have HZZ := Lib.hid hzz
  have hnk : M.toNat ≤ lb.length := by omega
  clear hfit hlw hlb hQ hzz
  go_enter Try.func13, Try.ntmps13
  go_wp2_with fail
  all_goals
    go_loop [11, 13] (fun t i => ∃ k : Nat, M.toNat ≤ k ∧ k ≤ lb.length ∧ i = .int .i64 k ∧ t = .bool (!anyOn ((lb.take k).drop M.toNat))) (fun _ i => lb.length - (intOf i).toNat)
    case atStart => exact ⟨_, Nat.le_refl _, hnk, rfl, by simp [anyOn]⟩
    case round =>
      obtain ⟨k, hk, hk2, rfl, rfl⟩ := hrel
      obtain ⟨z, hz⟩ : ∃ z, anyOn ((lb.take k).drop M.toNat) = z := ⟨_, rfl⟩
      rw [hz]
      by_cases hlt : k < lb.length
      · have ht : decide ((k : Int) < (lb.length : Int)) = true := by simp; omega
        obtain ⟨bb, off, y, rfl, hbb, hy, hc⟩ := HB.out.at_ hlt
        have HN := Lib.hid (any_next hk hy)
        rw [hz] at HN
        have hc2 := fun o1 o2 o3 => (((below_two w o1 o2).alloc (by simp; omega) o3).cell (p := ⟨bb, off + k, none⟩) hbb).trans hc
        clear hz hy hc
        cases z <;> cases y
        all_goals
          go_wp2_with fail
          go_round
          case rel => exact ⟨k + 1, by omega, by omega, by go_num, by rw [HN.out]; rfl⟩
          case measure => simp [intOf]; omega
      · obtain rfl : k = lb.length := by omega
        have ht : decide ((lb.length : Int) < (lb.length : Int)) = false := by simp
        have hze : (!z) = zz := by rw [← HZZ.out, ← hz, List.take_length]
        rw [hze]
        clear hz hze
        go_wp2_with fail
        have HBW : Below w.heap.size w (((w.alloc (.cells #[.int .u8 1, .int .u8 2, .int .u8 3, .int .u8 4, .int .u8 23] 5)).alloc (.cells #[.int .u8 2, .int .u16 0, .int .u16 (M.toNat : Int), .int .u16 0, .slice none 0 0, .slice none 0 0] 26)).alloc (.cells #[.int .u8 2, .int .u8 0, .slice ab lb.length cb, .slice none 0 0, .int .u16 0, .int .u16 0] 52)) := ((below_two w _ _).alloc (by simp; omega) _)
        have hRP := (HB.out.below HBW (Nat.le_refl _)).more HBW.size
        generalize (((w.alloc (.cells #[.int .u8 1, .int .u8 2, .int .u8 3, .int .u8 4, .int .u8 23] 5)).alloc (.cells #[.int .u8 2, .int .u16 0, .int .u16 (M.toNat : Int), .int .u16 0, .slice none 0 0, .slice none 0 0] 26)).alloc (.cells #[.int .u8 2, .int .u8 0, .slice ab lb.length cb, .slice none 0 0, .int .u16 0, .int .u16 0] 52)) = WF at *
        refine (fits_at _ _ ⟨2, 0, M, 0, [], []⟩ none 0 none 0 ⟨2, 0, lb, [], 0, 0⟩ none 0 ab cb _ rfl rfl ⟨Sl.none_, Sl.none_⟩ ⟨Sl.none_, hRP⟩ (by simp) (by simp) (.inr rfl) HZ.out).mono ?_
        rintro e w1 ⟨rfl, hb⟩
        have HB1 := Lib.hid (HBW.trans (hb.mono HBW.size))
        clear hb hRP HBW
        go_wp2_with fail
        refine (rawake_any _).mono ?_
        rintro e w2 ⟨rfl, hb⟩
        go_wp2_with fail
        go_ret
        exact Says.mk (HB1.out.trans (hb.mono HB1.out.size))
end Go.Proofs.Ytjgkomigjdlfhaa.ReplyW
