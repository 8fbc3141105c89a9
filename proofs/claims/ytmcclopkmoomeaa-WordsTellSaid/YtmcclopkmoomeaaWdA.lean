/- Small functions of words: numbers of two registers, signed registers, how many bytes bits need. -/
import Derived.Test.YtmcclopkmoomeaaChecked
import Derived.Test.YtmcclopkmoomeaaMem
import Derived.Test.YtmcclopkmoomeaaGrow
import Derived.Test.YtmcclopkmoomeaaWdReq
import Derived.Deep.QuietTactic
import Derived.BigQuiet
import Derived.Outline
import Derived.Laws.BitsAllLaws
open Go.RowKit
namespace Go.Proofs.Ytmcclopkmoomeaa.WdW
open AskM WdM Mem

theorem ret_bool {a b : Bool} (h : a = b) : Ending.returned (.bool a) = Ending.returned (.bool b) := by rw [h]
theorem info8 : (Try.prog.info? 5).map (fun i => (i.zero, i.size, i.bytes)) = some (some (.int .u8 0), 1, 1) := by kernel_rfl
theorem info16 : (Try.prog.info? 36).map (fun i => (i.zero, i.size, i.bytes)) = some (some (.int .u16 0), 1, 2) := by kernel_rfl
theorem infoB : (Try.prog.info? 4).map (fun i => (i.zero, i.size, i.bytes)) = some (some (.bool false), 1, 1) := by kernel_rfl
/-- The call answers v; nothing is written. -/
def Tells (v : Value) (w : World) (e : Ending) (w' : World) : Prop := e = .returned v ∧ w = w'
theorem Tells.mk {v v' : Value} {w : World} (h : v' = v) : Tells v w (.returned v') w := ⟨by rw [h], rfl⟩

theorem or_low_aux (h l : Nat) (hl : l < 65536) : h * 65536 ||| l = h * 65536 + l := by
  have := Nat.two_pow_add_eq_or_of_lt (i := 16) (show l < 2 ^ 16 by omega) h
  rw [show (65536 : Nat) = 2 ^ 16 from rfl, Nat.mul_comm h]
  exact this.symm
theorem wide_val (h l : Nat) (hh : h < 65536) (hl : l < 65536) : bits .or .u32 ((h : Int) * 65536) (l : Int) = ((65536 * h + l : Nat) : Int) := by
  have e : ((h : Int) * 65536) = ((h * 65536 : Nat) : Int) := by simp
  rw [e, u32_or_nat _ _ (by omega) (by omega), or_low_aux h l hl, Nat.mul_comm]
theorem Wide_any (h l : Nat) (w : World) (hh : h < 65536) (hl : l < 65536) :
    Calls Try.prog 19 #[.int .u16 (h : Int), .int .u16 (l : Int)] w (Tells (.int .u32 ((65536 * h + l : Nat) : Int)) w) := by
  have HV := Lib.hid (wide_val h l hh hl)
  go_enter Try.func19, Try.ntmps19
  go_wp2_with fail
  go_ret
  exact Tells.mk (by show Value.int .u32 _ = _; rw [← HV.out])
theorem rWide_any (h l : Nat) (w : World) (hh : h < 65536) (hl : l < 65536) :
    Calls Try.prog 21 #[.int .u16 (h : Int), .int .u16 (l : Int)] w (Tells (.int .u32 ((65536 * h + l : Nat) : Int)) w) := by
  go_enter Try.func21, Try.ntmps21
  go_wp2_with fail
  go_ret
  exact Tells.mk (by show Value.int .u32 _ = _; congr 1)
theorem Parts_any (x : Nat) (w : World) (hx : x < 4294967296) :
    Calls Try.prog 20 #[.int .u32 (x : Int)] w (Tells (.tuple #[.int .u16 ((x / 65536 : Nat) : Int), .int .u16 ((x % 65536 : Nat) : Int)]) w) := by
  go_enter Try.func20, Try.ntmps20
  go_wp2_with fail
  go_ret2
  exact Tells.mk rfl
theorem Signed_any (x : Nat) (w : World) (hx : x < 65536) :
    Calls Try.prog 22 #[.int .u16 (x : Int)] w (Tells (.int .i64 (signedN x)) w) := by
  go_enter Try.func22, Try.ntmps22
  go_wp2_with fail
  go_ret
  refine Tells.mk ?_
  show Value.int .i64 _ = _
  have hw : IntKind.i16.wrap (x : Int) = signedN x := by
    unfold signedN
    have e : IntKind.i16.wrap (x : Int) = if 32768 ≤ (x : Int) % 65536 then (x : Int) % 65536 - 65536 else (x : Int) % 65536 := by simp [IntKind.wrap, IntKind.bits, IntKind.signed]
    rw [e]
    by_cases h : 32768 ≤ x
    · rw [if_pos h, if_pos (by omega)]; omega
    · rw [if_neg h, if_neg (by omega)]; omega
  have h1 : -32768 ≤ signedN x ∧ signedN x ≤ 32767 := by unfold signedN; split <;> omega
  rw [hw]
  congr 1
  unfold wrap64
  omega
theorem rSigned_any (x : Nat) (w : World) (hx : x < 65536) :
    Calls Try.prog 23 #[.int .u16 (x : Int)] w (Tells (.int .i64 (signedN x)) w) := by
  by_cases h : 32768 ≤ x
  · have ht : decide ((32768 : Int) ≤ (x : Int)) = true := by simp; omega
    have HV : Hid (signedN x = (x : Int) - 65536) := Lib.hid (by unfold signedN; rw [if_pos h])
    clear h
    go_enter Try.func23, Try.ntmps23
    go_wp2_with fail
    go_ret
    exact Tells.mk (by show Value.int .i64 _ = _; rw [HV.out])
  · have ht : decide ((32768 : Int) ≤ (x : Int)) = false := by simp; omega
    have HV : Hid (signedN x = (x : Int)) := Lib.hid (by unfold signedN; rw [if_neg h])
    clear h
    go_enter Try.func23, Try.ntmps23
    go_wp2_with fail
    go_ret
    exact Tells.mk (by show Value.int .i64 _ = _; rw [HV.out])
theorem Word_any (x : Int) (w : World) (h1 : -9223372036854775808 ≤ x) (h2 : x ≤ 9223372036854775807) :
    Calls Try.prog 24 #[.int .i64 x] w (Tells (.tuple #[.int .u16 (wordN x : Int), .bool (mayN x)]) w) := by
  have hs := Lib.hid (fun w => Signed_any (x % 65536).toNat w (by omega))
  have hx0 : ((x % 65536).toNat : Int) = x % 65536 := by omega
  rw [hx0] at hs
  by_cases h : mayN x = true
  · have hm := h
    unfold mayN at hm
    have hd := of_decide_eq_true hm
    have hv : signedN (x % 65536).toNat = x := by unfold signedN; split <;> omega
    have hw : (wordN x : Int) = x % 65536 := by unfold wordN; rw [if_pos h]; omega
    rw [hv] at hs
    have HR := Lib.hid (And.intro hw h)
    have ht : (x != x) = false := by simp
    clear hm hd hv hw h hx0
    go_enter Try.func24, Try.ntmps24
    go_wp2_with fail
    refine (hs.out w).mono ?_
    rintro e w' ⟨rfl, rfl⟩
    go_wp2_with fail
    go_ret2
    exact Tells.mk (by rw [HR.out.1, HR.out.2, ← IntKind.wrap_u16]; rfl)
  · have hm := h
    unfold mayN at hm
    have hd : ¬ (-32768 ≤ x ∧ x ≤ 32767) := fun hh => hm (decide_eq_true hh)
    have hv : signedN (x % 65536).toNat ≠ x := by unfold signedN; split <;> omega
    have hw : wordN x = 0 := by unfold wordN; rw [if_neg h]
    have hf : mayN x = false := by simpa using h
    have HR := Lib.hid (And.intro hw hf)
    have ht : (signedN (x % 65536).toNat != x) = true := by simp [hv]
    clear hm hd hv hw h hf hx0
    generalize signedN (x % 65536).toNat = s at *
    go_enter Try.func24, Try.ntmps24
    go_wp2_with fail
    refine (hs.out w).mono ?_
    rintro e w' ⟨rfl, rfl⟩
    go_wp2_with fail
    go_ret2
    exact Tells.mk (by rw [HR.out.1, HR.out.2]; rfl)
theorem holding_any (n : Nat) (w : World) (hn : n ≤ 9223372036854775807) :
    Calls Try.prog 25 #[.int .i64 (n : Int)] w (Tells (.int .i64 (((n + 7) / 8 : Nat) : Int)) w) := by
  by_cases h : n % 8 = 0
  · have HV := Lib.hid h
    have hr : (n : Int) % 8 = 0 := by omega
    go_enter Try.func25, Try.ntmps25
    go_wp2_with fail
    all_goals
      go_ret
      exact Tells.mk (by show Value.int .i64 _ = _; congr 1; omega)
  · have hr : (1 : Int) ≤ (n : Int) % 8 := by omega
    go_enter Try.func25, Try.ntmps25
    go_wp2_with fail
    all_goals
      go_ret
      exact Tells.mk (by show Value.int .i64 _ = _; congr 1; omega)
end Go.Proofs.Ytmcclopkmoomeaa.WdW
