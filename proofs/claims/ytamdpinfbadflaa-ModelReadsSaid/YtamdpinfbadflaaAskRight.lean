/- Right. -/
import Derived.Test.YtamdpinfbadflaaAskT
import Derived.Test.YtamdpinfbadflaaAskWrite
import Derived.RegionTactic
import Derived.Deep.RegionWith
import Derived.Deep.DeepCutAuto
open Go.RowKit
namespace Go.Proofs.Ytamdpinfbadflaa.AskW
open AskM Mem

/-- The fields that are found for a function; those of no function are all zero. -/
def rowD (c : Nat) : Row := (rowN c).getD ⟨0, 0, 0, false⟩
theorem found_is (c : Nat) : found c = .tuple #[rowV (rowD c), .bool (known c)] := by
  unfold found rowD known
  cases rowN c <;> rfl
theorem rowD_some {c : Nat} (h : known c = true) : rowN c = some (rowD c) := by
  unfold known at h
  unfold rowD
  cases hF : rowN c with
  | none => rw [hF] at h; cases h
  | some F => rfl
theorem known_none {c : Nat} (h : known c = false) : rowN c = none := by
  unfold known at h
  cases hF : rowN c with
  | none => rfl
  | some F => rw [hF] at h; cases h
theorem ask_at {c : Nat} (hc : c < 256) (W : World) (g : Nat) (hg : W.heap[g]? = some (.map (entA 9) 9)) :
    (Instr.lookup 87 (.map (some g)) (.int .u8 (c : Int)) true).run Try.prog W = .ok (.tuple #[rowV (rowD c), .bool (known c)]) W := by rw [run_ask W g 9 hg c hc, found_is]
theorem at_one (w : World) (o1 o2 : Obj) : ((w.alloc o1).alloc o2).heap[w.heap.size + 1]? = some o2 := by
  have := heap_alloc_new (w.alloc o1) o2
  rwa [World.size_alloc] at this
theorem at_one_of (w : World) (o1 o2 o3 : Obj) : (((w.alloc o1).alloc o2).alloc o3).heap[w.heap.size + 1]? = some o2 := by
  rw [Below.heap_alloc _ _ _ (by simp)]
  exact at_one w o1 o2
theorem at_two (w : World) (o1 o2 o3 : Obj) : (((w.alloc o1).alloc o2).alloc o3).heap[w.heap.size + 1 + 1]? = some o3 := by
  have := heap_alloc_new ((w.alloc o1).alloc o2) o3
  rwa [World.size_alloc, World.size_alloc] at this
/-- The table has been made and asked behind W: the fields lie in a new block. -/
def Asked (W : World) (R : Row) (ok : Bool) (s3 s4 : Value) (wx : World) : Prop :=
  ∃ gf, s3 = .pointer (some ⟨gf, 0, none⟩) ∧ s4 = .bool ok ∧ W.heap.size ≤ gf ∧ gf < wx.heap.size ∧ wx.heap[gf]? = some (.cells #[.int .i64 (R.many : Int), .int .i64 (R.bits : Int), .int .i64 (R.words : Int), .bool R.to_] 85 (0, 0)) ∧ Below W.heap.size W wx
theorem asked_a (w : World) (o1 o2 : Obj) (R : Row) (ok : Bool) : Asked (w.alloc o1) R ok (.pointer (some ⟨w.heap.size + 1 + 1, 0, none⟩)) (.bool ok) ((((w.alloc o1).alloc o2).alloc (.cells #[.int .i64 (R.many : Int), .int .i64 (R.bits : Int), .int .i64 (R.words : Int), .bool R.to_] 85)).drew) :=
  ⟨_, rfl, rfl, by simp, by simp, at_two w _ _ _, (((Below.refl _ _).alloc (Nat.le_refl _) _).alloc (by simp) _).drew⟩
theorem asked_b (w : World) (o1 o2 : Obj) (R : Row) (ok : Bool) : Asked (w.alloc o1) R ok (.pointer (some ⟨w.heap.size + 1, 0, none⟩)) (.bool ok) ((((w.alloc o1).alloc (.cells #[.int .i64 (R.many : Int), .int .i64 (R.bits : Int), .int .i64 (R.words : Int), .bool R.to_] 85)).alloc o2).drew) :=
  ⟨_, rfl, rfl, by simp, by simp, at_one_of w _ _ _, (((Below.refl _ _).alloc (Nat.le_refl _) _).alloc (by simp) _).drew⟩
/-- What is known of a world in which the table has been asked behind one box. -/
theorem Asked.facts {w wx : World} {c1 : Array Value} {T1 : TypeId} {R : Row} {ok : Bool} {s3 s4 : Value} (h : Asked (w.alloc (.cells c1 T1)) R ok s3 s4 wx) :
    ∃ gf, s3 = .pointer (some ⟨gf, 0, none⟩) ∧ s4 = .bool ok ∧ w.heap.size + 1 ≤ gf ∧ gf < wx.heap.size ∧ (∀ o, wx.cell? ⟨gf, o, none⟩ = (#[.int .i64 (R.many : Int), .int .i64 (R.bits : Int), .int .i64 (R.words : Int), .bool R.to_] : Array Value)[o]?) ∧
      (∀ o, wx.cell? ⟨w.heap.size, o, none⟩ = c1[o]?) ∧ (wx.heap[w.heap.size]? = some (.cells c1 T1 (0, 0))) ∧ Below w.heap.size w wx ∧ wx.heap[gf]? = some (.cells #[.int .i64 (R.many : Int), .int .i64 (R.bits : Int), .int .i64 (R.words : Int), .bool R.to_] 85 (0, 0)) := by
  obtain ⟨gf, rfl, rfl, h1, h2, h3, h4⟩ := h
  simp only [World.size_alloc] at h1
  have h5 : wx.heap[w.heap.size]? = some (.cells c1 T1 (0, 0)) := by rw [h4.block _ (by simp)]; exact heap_alloc_new w _
  exact ⟨gf, rfl, rfl, h1, h2, fun o => cell_of_row _ _ _ _ _ _ h3, fun o => cell_of_row _ _ _ _ _ _ h5, h5, ((Below.refl _ _).alloc (Nat.le_refl _) _).trans (h4.mono (by simp)), h3⟩

set_option maxHeartbeats 2000000 in
theorem Right_any (a : Req) (aw : Option Addr) (cw : Nat) (ab : Option Addr) (cb : Nat) (w : World) (hnw : a.words.length ≤ 1000000) (hnb : a.bits.length ≤ 1000000) :
    Calls Try.prog 27 #[askV a aw cw ab cb] w (Says (.bool (rightN a)) w) := by
  have hc := a.fn.toNat_lt
  have q1 := fun (o1 : Obj) => ask_at hc (((w.alloc o1).alloc (.map (entA 9) 9)).drew) (w.heap.size + 1) (at_one w o1 _)
  have q2 := fun (o1 o2 : Obj) => ask_at hc ((((w.alloc o1).alloc (.map (entA 9) 9)).alloc o2).drew) (w.heap.size + 1) (at_one_of w o1 _ o2)
  have q3 := fun (o1 o2 : Obj) => ask_at hc ((((w.alloc o1).alloc o2).alloc (.map (entA 9) 9)).drew) (w.heap.size + 1 + 1) (at_two w o1 o2 _)
  have HK : Hid (known a.fn.toNat = known a.fn.toNat ∧ rowD a.fn.toNat = rowD a.fn.toNat) := Lib.hid ⟨rfl, rfl⟩
  have hright : Hid (rightN a = (known a.fn.toNat && fitN (rowD a.fn.toNat) a)) := by
    unfold Hid rightN
    cases hk : known a.fn.toNat
    · rw [known_none hk]; rfl
    · rw [rowD_some hk]; simp
  have hfit := fun (h : known a.fn.toNat = true) (w : World) => fit_any (rowD a.fn.toNat) (rowOk (rowD_some h)) a aw cw ab cb w hnw hnb
  generalize known a.fn.toNat = ok at *
  generalize rowD a.fn.toNat = R at *
  clear HK
  obtain ⟨fn, at_, many, to_, words, bits⟩ := a
  obtain ⟨fm, fb, fw, ft⟩ := R
  go_enter Try.func27, Try.ntmps27
  go_upto_region 1 with fail
  go_cut [3, 4] (fun s3 s4 wx => Asked (w.alloc (.cells #[b8 fn, b16 at_, b16 many, b16 to_, .slice aw words.length cw, .slice ab bits.length cb] 31)) ⟨fm, fb, fw, ft⟩ ok s3 s4 wx)
  case first =>
    go_region_with ((go_at_call 40; refine (table_any _).mono ?_; rintro e w' ⟨rfl, rfl⟩))
    all_goals (go_wp2_with fail; go_meet; first | exact asked_a w _ _ ⟨fm, fb, fw, ft⟩ _ | exact asked_b w _ _ ⟨fm, fb, fw, ft⟩ _)
  case rest =>
    obtain ⟨gf, rfl, rfl, hg1, hg2, hC, hA, hAh, hB, hH⟩ := hcut.facts
    clear hcut q1 q2 q3
    have HB := Lib.hid (And.intro hB (And.intro hAh hH))
    clear hB hAh hH
    cases ok
    · go_wp2_with fail
      go_ret
      exact says_bool (by rw [hright.out]; simp) HB.out.1
    · have hfit2 := hfit rfl
      clear hfit
      go_wp2_with fail
      refine (hfit2 _).mono ?_
      rintro e w' ⟨rfl, hb⟩
      go_wp2_with fail
      go_ret
      exact says_bool (by rw [hright.out]; simp) (HB.out.1.trans (hb.mono HB.out.1.size))
end Go.Proofs.Ytamdpinfbadflaa.AskW
