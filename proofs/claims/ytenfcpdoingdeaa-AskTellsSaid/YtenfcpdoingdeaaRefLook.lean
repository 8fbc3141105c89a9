/- The document's own reading of a request: what is wrong with bytes. -/
import Derived.Test.YtenfcpdoingdeaaRefParseN
import Derived.Test.YtenfcpdoingdeaaAskLook
open Go.RowKit
namespace Go.Proofs.Ytenfcpdoingdeaa.RefW
open AskM AskW Mem

theorem known_aux : ∀ c : Fin 256, known c.1 = (decide (1 ≤ c.1) && decide (c.1 ≤ 6) || decide (c.1 = 15) || decide (c.1 = 16) || decide (c.1 = 23)) := by decide +kernel
theorem look_none {l : List UInt8} (h : parseN l = none) (h0 : ¬ l.length = 0) : lookN l = (bare (l.getD 0 0), if known (l.getD 0 0).toNat = true then 3 else 1) := by
  unfold lookN
  rw [if_neg h0, h]
  cases hk : known (l.getD 0 0).toNat <;> simp
theorem look_some {l : List UInt8} {q : Req} (h : parseN l = some q) : lookN l = (q, 0) := by
  have hb := parse_iff.1 h
  obtain ⟨h1, h2, _, h4⟩ := bytes_facts hb
  obtain ⟨F, hF, _, _⟩ := bytesN_some.1 hb
  unfold lookN
  have h0 : ¬ l.length = 0 := fun e => by
    have : l = [] := List.eq_nil_of_length_eq_zero e
    subst this
    simp [parseN] at h
  have hk : known (l.getD 0 0).toNat = true := by
    unfold known
    rw [h4, hF]; rfl
  rw [if_neg h0, h, hk]
  simp
theorem row_alloc {W : World} {g : Nat} {o p : Obj} (h : W.heap[g]? = some o) : (W.alloc p).heap[g]? = some o := (Below.heap_alloc W p g (Array.getElem?_eq_some_iff.1 h).1).trans h
set_option maxRecDepth 100000 in
set_option maxHeartbeats 8000000 in
theorem rLook_any (a : Option Addr) (n c : Nat) (l : List UInt8) (w : World) (hS : Sl b8 w w.heap.size a n c l) (hm : n ≤ 1000000) :
    Calls Try.prog 18 #[.slice a n c] w (Looked (lookN l) w) := by
  have hn := len_le hS
  have hl := hS.len
  have hB1 := (Below.refl w.heap.size w).alloc (Nat.le_refl _) (.cells zeroC 26)
  have HZ : Hid ((w.alloc (.cells zeroC 26)).heap[w.heap.size]? = some (.cells zeroC 26 (0, 0))) := Lib.hid (heap_alloc_new w _)
  have HS1 := (hS.below hB1 (Nat.le_refl _)).more (show w.heap.size ≤ (w.alloc (.cells zeroC 26)).heap.size by simp)
  have HPR := Lib.hid (rParse_any a n c l _ HS1 hm)
  have hW1 : (w.alloc (.cells zeroC 26)).heap.size = w.heap.size + 1 := by simp
  have HB1 := Lib.hid hB1
  have HS := Lib.hid hS
  have HL := Lib.hid hl
  clear hS hl hB1 HS1
  cases hp : parseN l with
  | some q =>
    have HP := Lib.hid (look_some hp)
    rw [hp] at HPR
    clear hp
    obtain ⟨qf, qa, qm, qt, ws, bs⟩ := q
    go_enter Try.func18, Try.ntmps18
    go_wp2_with fail
    generalize w.alloc (.cells zeroC 26) = W1 at *
    refine HPR.out.mono ?_
    rintro e W2 ⟨aw, cw, ab, cb, rfl, hA, hb, hx⟩
    simp only [Option.getD_some, Option.isSome_some, if_true]
    have HA := Lib.hid hA
    have HX := Lib.hid hx
    have HB2 := Lib.hid (HB1.out.trans (hb.mono (by omega)))
    have HZ2 := Lib.hid ((hb.block _ (by omega)).trans HZ.out)
    have hz2 := hb.size
    clear hA hx hb HPR HZ
    have HZ3 := Lib.hid (row_alloc (p := .cells #[b8 qf, b16 qa, b16 qm, b16 qt, .slice aw ws.length cw, .slice ab bs.length cb] 26) HZ2.out)
    go_wp2_with (refine wpList_store_row rfl 26 (.tmp 2) (.tmp 14) rfl w.heap.size #[b8 qf, b16 qa, b16 qm, b16 qt, .slice aw ws.length cw, .slice ab bs.length cb] rfl rfl 26 zeroC HZ3.out (by kernel_rfl) (by kernel_rfl) (by kernel_rfl) ?_)
    exact bodyPost_ret (v := .tuple #[askV ⟨qf, qa, qm, qt, ws, bs⟩ aw cw ab cb, .int .u8 0]) (results_cell_row_tmp rfl _ _ w.heap.size 26 _ (0, 0) _ rfl (setRow_heap _ _ _ _ _ _ HZ3.out) Try.underlying26 rfl (by kernel_rfl) _ rfl) rfl
      (looked_some HP.out ⟨sl_row ((HA.out.words.alloc (Nat.le_refl _) _).more (by simp)) (fun x hx => by have := HX.out x (.inl hx); omega) _, sl_row ((HA.out.bits.alloc (Nat.le_refl _) _).more (by simp)) (fun x hx => by have := HX.out x (.inr hx); omega) _⟩ (below_setRow (HB2.out.alloc HB2.out.size _) (Nat.le_refl _) _) (fun x hx => by have := HX.out x hx; omega))
  | none =>
    rw [hp] at HPR
    have HNO := Lib.hid (fun h => look_none (l := l) hp h)
    have HZERO : Hid (l.length = 0 → lookN l = (bare 0, 1)) := Lib.hid (fun h => by unfold lookN; rw [if_pos h])
    clear hp
    go_enter Try.func18, Try.ntmps18
    go_wp2_with fail
    generalize w.alloc (.cells zeroC 26) = W1 at *
    refine HPR.out.mono ?_
    rintro e W2 ⟨aw, cw, ab, cb, rfl, hA, hb, hx⟩
    simp only [Option.getD_none, Option.isSome_none, Bool.false_eq_true, if_false]
    have HB2 := Lib.hid (HB1.out.trans (hb.mono (by omega)))
    have HZ2 := Lib.hid ((hb.block _ (by omega)).trans HZ.out)
    clear hA hx hb HPR HZ
    have HZ3 := fun p => Lib.hid (row_alloc (p := p) HZ2.out)
    have HB3 := fun p => Lib.hid (HB2.out.alloc (o := p) HB2.out.size)
    by_cases h0 : n = 0
    · have t0 : ((n : Int) == 0) = true := by simp; omega
      have HP := Lib.hid (HZERO.out (by rw [HL.out]; exact h0))
      subst h0
      clear HNO HZERO
      go_wp2_with (refine wpList_store_row rfl 26 (.tmp 2) (.tmp 18) rfl w.heap.size zeroC rfl rfl 26 zeroC (HZ3 _).out (by kernel_rfl) (by kernel_rfl) (by kernel_rfl) ?_)
      exact bodyPost_ret (v := .tuple #[.agg zeroC, .int .u8 1]) (results_cell_row_tmp rfl _ _ w.heap.size 26 zeroC (0, 0) _ rfl (setRow_heap _ _ _ _ _ _ (HZ3 _).out) Try.underlying26 rfl (by kernel_rfl) _ rfl) rfl (looked_bare HP.out (below_setRow (HB3 _).out (Nat.le_refl _) _) rfl rfl)
    have t0 : ((n : Int) == 0) = false := by simp; omega
    obtain ⟨b, off, x, rfl, hbk, hx, hcell⟩ := HS.out.at_ (k := 0) (by omega)
    rw [Nat.add_zero] at hcell
    have hx0 : l.getD 0 0 = x := getD_zero hx
    have HP := Lib.hid (HNO.out (by rw [HL.out]; exact h0))
    rw [hx0] at HP
    have hcx := fun p => ((HB3 p).out.cell (p := ⟨b, off, none⟩) hbk).trans hcell
    have hpos : (0 : Int) < (n : Int) := by omega
    have hx8 := x.toNat_lt
    have hk := known_aux ⟨x.toNat, hx8⟩
    simp only at hk
    clear HNO HZERO hx hx0 h0
    by_cases hkn : known x.toNat = true
    · rw [hkn] at hk
      rw [hkn, if_pos rfl] at HP
      have END := fun (W : World) => True
      clear END hkn
      by_cases g1 : 1 ≤ x.toNat
      case neg => exfalso; simp at hk; omega
      have u1 : decide ((1 : Int) ≤ (x.toNat : Int)) = true := by simp; omega
      by_cases g6 : x.toNat ≤ 6
      · have u6 : decide ((x.toNat : Int) ≤ 6) = true := by simp; omega
        clear hk g1 g6
        go_wp2_with (refine wpList_store_row rfl 26 (.tmp 2) (.tmp 41) rfl w.heap.size #[.int .u8 (x.toNat : Int), .int .u16 0, .int .u16 0, .int .u16 0, .slice none 0 0, .slice none 0 0] rfl rfl 26 zeroC (HZ3 _).out (by kernel_rfl) (by kernel_rfl) (by kernel_rfl) ?_)
        exact bodyPost_ret (v := .tuple #[.agg #[.int .u8 (x.toNat : Int), .int .u16 0, .int .u16 0, .int .u16 0, .slice none 0 0, .slice none 0 0], .int .u8 3]) (results_cell_row_tmp rfl _ _ w.heap.size 26 _ (0, 0) _ rfl (setRow_heap _ _ _ _ _ _ (HZ3 _).out) Try.underlying26 rfl (by kernel_rfl) _ rfl) rfl (looked_bare HP.out (below_setRow (HB3 _).out (Nat.le_refl _) _) rfl rfl)
      have u6 : decide ((x.toNat : Int) ≤ 6) = false := by simp; omega
      by_cases g15 : x.toNat = 15
      · have u15 : ((x.toNat : Int) == 15) = true := by simp; omega
        clear hk g1 g6 g15
        go_wp2_with (refine wpList_store_row rfl 26 (.tmp 2) (.tmp 41) rfl w.heap.size #[.int .u8 (x.toNat : Int), .int .u16 0, .int .u16 0, .int .u16 0, .slice none 0 0, .slice none 0 0] rfl rfl 26 zeroC (HZ3 _).out (by kernel_rfl) (by kernel_rfl) (by kernel_rfl) ?_)
        exact bodyPost_ret (v := .tuple #[.agg #[.int .u8 (x.toNat : Int), .int .u16 0, .int .u16 0, .int .u16 0, .slice none 0 0, .slice none 0 0], .int .u8 3]) (results_cell_row_tmp rfl _ _ w.heap.size 26 _ (0, 0) _ rfl (setRow_heap _ _ _ _ _ _ (HZ3 _).out) Try.underlying26 rfl (by kernel_rfl) _ rfl) rfl (looked_bare HP.out (below_setRow (HB3 _).out (Nat.le_refl _) _) rfl rfl)
      have u15 : ((x.toNat : Int) == 15) = false := by simp; omega
      by_cases g16 : x.toNat = 16
      · have u16 : ((x.toNat : Int) == 16) = true := by simp; omega
        clear hk g1 g6 g15 g16
        go_wp2_with (refine wpList_store_row rfl 26 (.tmp 2) (.tmp 41) rfl w.heap.size #[.int .u8 (x.toNat : Int), .int .u16 0, .int .u16 0, .int .u16 0, .slice none 0 0, .slice none 0 0] rfl rfl 26 zeroC (HZ3 _).out (by kernel_rfl) (by kernel_rfl) (by kernel_rfl) ?_)
        exact bodyPost_ret (v := .tuple #[.agg #[.int .u8 (x.toNat : Int), .int .u16 0, .int .u16 0, .int .u16 0, .slice none 0 0, .slice none 0 0], .int .u8 3]) (results_cell_row_tmp rfl _ _ w.heap.size 26 _ (0, 0) _ rfl (setRow_heap _ _ _ _ _ _ (HZ3 _).out) Try.underlying26 rfl (by kernel_rfl) _ rfl) rfl (looked_bare HP.out (below_setRow (HB3 _).out (Nat.le_refl _) _) rfl rfl)
      have u16 : ((x.toNat : Int) == 16) = false := by simp; omega
      have g23 : x.toNat = 23 := by simp [g15, g16] at hk; omega
      have u23 : ((x.toNat : Int) == 23) = true := by simp; omega
      clear hk g1 g6 g15 g16 g23
      go_wp2_with (refine wpList_store_row rfl 26 (.tmp 2) (.tmp 41) rfl w.heap.size #[.int .u8 (x.toNat : Int), .int .u16 0, .int .u16 0, .int .u16 0, .slice none 0 0, .slice none 0 0] rfl rfl 26 zeroC (HZ3 _).out (by kernel_rfl) (by kernel_rfl) (by kernel_rfl) ?_)
      exact bodyPost_ret (v := .tuple #[.agg #[.int .u8 (x.toNat : Int), .int .u16 0, .int .u16 0, .int .u16 0, .slice none 0 0, .slice none 0 0], .int .u8 3]) (results_cell_row_tmp rfl _ _ w.heap.size 26 _ (0, 0) _ rfl (setRow_heap _ _ _ _ _ _ (HZ3 _).out) Try.underlying26 rfl (by kernel_rfl) _ rfl) rfl (looked_bare HP.out (below_setRow (HB3 _).out (Nat.le_refl _) _) rfl rfl)
    · have hkf : known x.toNat = false := by simpa using hkn
      rw [hkf] at hk
      rw [hkf] at HP
      simp only [Bool.false_eq_true, if_false] at HP
      have g15 : ¬ x.toNat = 15 := fun h => by simp [h] at hk
      have g16 : ¬ x.toNat = 16 := fun h => by simp [h] at hk
      have g23 : ¬ x.toNat = 23 := fun h => by simp [h] at hk
      have u15 : ((x.toNat : Int) == 15) = false := by simp; omega
      have u16 : ((x.toNat : Int) == 16) = false := by simp; omega
      have u23 : ((x.toNat : Int) == 23) = false := by simp; omega
      have hr : ¬ (1 ≤ x.toNat ∧ x.toNat ≤ 6) := fun ⟨h1, h2⟩ => by simp [h1, h2] at hk
      clear hkn hkf hk g15 g16 g23
      by_cases g1 : 1 ≤ x.toNat
      · have u1 : decide ((1 : Int) ≤ (x.toNat : Int)) = true := by simp; omega
        have u6 : decide ((x.toNat : Int) ≤ 6) = false := by simp; omega
        clear hr g1
        go_wp2_with (refine wpList_store_row rfl 26 (.tmp 2) (.tmp 43) rfl w.heap.size #[.int .u8 (x.toNat : Int), .int .u16 0, .int .u16 0, .int .u16 0, .slice none 0 0, .slice none 0 0] rfl rfl 26 zeroC (HZ3 _).out (by kernel_rfl) (by kernel_rfl) (by kernel_rfl) ?_)
        exact bodyPost_ret (v := .tuple #[.agg #[.int .u8 (x.toNat : Int), .int .u16 0, .int .u16 0, .int .u16 0, .slice none 0 0, .slice none 0 0], .int .u8 1]) (results_cell_row_tmp rfl _ _ w.heap.size 26 _ (0, 0) _ rfl (setRow_heap _ _ _ _ _ _ (HZ3 _).out) Try.underlying26 rfl (by kernel_rfl) _ rfl) rfl (looked_bare HP.out (below_setRow (HB3 _).out (Nat.le_refl _) _) rfl rfl)
      · have u1 : decide ((1 : Int) ≤ (x.toNat : Int)) = false := by simp; omega
        clear hr g1
        go_wp2_with (refine wpList_store_row rfl 26 (.tmp 2) (.tmp 43) rfl w.heap.size #[.int .u8 (x.toNat : Int), .int .u16 0, .int .u16 0, .int .u16 0, .slice none 0 0, .slice none 0 0] rfl rfl 26 zeroC (HZ3 _).out (by kernel_rfl) (by kernel_rfl) (by kernel_rfl) ?_)
        exact bodyPost_ret (v := .tuple #[.agg #[.int .u8 (x.toNat : Int), .int .u16 0, .int .u16 0, .int .u16 0, .slice none 0 0, .slice none 0 0], .int .u8 1]) (results_cell_row_tmp rfl _ _ w.heap.size 26 _ (0, 0) _ rfl (setRow_heap _ _ _ _ _ _ (HZ3 _).out) Try.underlying26 rfl (by kernel_rfl) _ rfl) rfl (looked_bare HP.out (below_setRow (HB3 _).out (Nat.le_refl _) _) rfl rfl)
end Go.Proofs.Ytenfcpdoingdeaa.RefW
