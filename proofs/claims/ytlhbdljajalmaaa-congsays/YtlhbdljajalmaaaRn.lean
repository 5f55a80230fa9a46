/-
  The document's own window: contracts of Rest, outside, CwndNew, Lost, Silent, Acked.
-/
import Derived.Test.YtlhbdljajalmaaaFn
namespace Go.Proofs.Ytlhbdljajalmaaa
open Go.RowKit
set_option linter.unusedVariables false
set_option linter.unusedSimpArgs false

theorem emod_of_tmod (n m : Int) (h1 : 1 ≤ m) : n % m = if n.tmod m < 0 then n.tmod m + m else n.tmod m := by
  have e : n = n.tmod m + m * n.tdiv m := (Int.tmod_add_mul_tdiv n m).symm
  have l1 := Int.tmod_lt_of_pos n (show 0 < m by omega)
  have l2 := Int.lt_tmod_of_pos n (show 0 < m by omega)
  have e2 : n % m = (n.tmod m) % m := by
    conv => lhs; rw [e]
    rw [Int.add_mul_emod_self_left]
  rw [e2]
  split
  · rw [← Int.add_emod_right, Int.emod_eq_of_lt (by omega) (by omega)]
  · rw [Int.emod_eq_of_lt (by omega) (by omega)]
theorem rest_any (n m : Int) (w : World) (h1 : 1 ≤ m) (hm : m ≤ 9223372036854775807) (hn : -9223372036854775808 ≤ n) (hn2 : n ≤ 9223372036854775807) :
    Calls Try.prog 17 #[.int .i64 n, .int .i64 m] w fun e w' => e = .returned (.int .i64 (n % m)) ∧ w' = w := by
  have hz : (m == 0) = false := by simp; omega
  have HE : Hid (n % m = if n.tmod m < 0 then n.tmod m + m else n.tmod m) := emod_of_tmod n m h1
  have l2 := Int.lt_tmod_of_pos n (show 0 < m by omega)
  by_cases hneg : n.tmod m < 0
  · go_enter Try.func17, Try.ntmps17
    go_wp2
    go_ret
    exact ⟨ret_int (by rw [HE.out, if_pos hneg]), rfl⟩
  · go_enter Try.func17, Try.ntmps17
    go_wp2
    go_ret
    exact ⟨ret_int (by rw [HE.out, if_neg (by omega)]), rfl⟩
theorem outside_t (n l m : Int) (w : World) (h : n < l ∨ m < n) :
    Calls Try.prog 16 #[.int .i64 n, .int .i64 l, .int .i64 m] w fun e w' => e = .returned (.bool true) ∧ w' = w := by
  by_cases h0 : n < l
  · go_enter Try.func16, Try.ntmps16
    go_wp2
    go_ret
    exact ⟨rfl, rfl⟩
  · have h1 : m < n := by omega
    clear h
    go_enter Try.func16, Try.ntmps16
    go_wp2
    go_ret
    exact ⟨rfl, rfl⟩
theorem outside_f (n l m : Int) (w : World) (h : ¬ (n < l ∨ m < n)) :
    Calls Try.prog 16 #[.int .i64 n, .int .i64 l, .int .i64 m] w fun e w' => e = .returned (.bool false) ∧ w' = w := by
  have h0 : ¬ n < l := by omega
  have h1 : ¬ m < n := by omega
  clear h
  go_enter Try.func16, Try.ntmps16
  go_wp2
  go_ret
  exact ⟨rfl, rfl⟩
theorem rnew_bad (m : Int) (w : World) (h : m < 8 ∨ 1000 < m) :
    Calls Try.prog 6 #[.int .i64 m] w fun e w' => e = .returned (.tuple #[.pointer none, .int .i64 1]) ∧ w' = w := by
  have HO : Hid (∀ w', Calls Try.prog 16 #[.int .i64 m, .int .i64 8, .int .i64 1000] w' fun e w'' => e = .returned (.bool true) ∧ w'' = w') := fun w' => outside_t m 8 1000 w' h
  clear h
  go_enter Try.func6, Try.ntmps6
  go_wp2_with fail
  refine (HO.out _).mono ?_; rintro e w1 ⟨rfl, rfl⟩
  go_wp2_with fail
  go_ret2
  exact ⟨rfl, rfl⟩
theorem rnew_ok (m : Int) (w : World) (h0 : 8 ≤ m) (h1 : m ≤ 1000) :
    Calls Try.prog 6 #[.int .i64 m] w fun e w' => e = .returned (.tuple #[.pointer (some ⟨w.heap.size, 0, none⟩), .int .i64 0]) ∧ RB w.heap.size (wn0 m) w' ∧ Below w.heap.size w w' := by
  have T0 : Hid (RB w.heap.size (wn0 m) (w.alloc (.cells #[.int .i64 m, .int .i64 (2 * m), .int .i64 65535] 49))) := heap_alloc_new w _
  have b0 : Below w.heap.size w (w.alloc (.cells #[.int .i64 m, .int .i64 (2 * m), .int .i64 65535] 49)) := (Below.refl _ _).alloc (Nat.le_refl _) _
  have HO : Hid (∀ w', Calls Try.prog 16 #[.int .i64 m, .int .i64 8, .int .i64 1000] w' fun e w'' => e = .returned (.bool false) ∧ w'' = w') := fun w' => outside_f m 8 1000 w' (by omega)
  go_enter Try.func6, Try.ntmps6
  go_wp2_with fail
  refine (HO.out _).mono ?_; rintro e w1 ⟨rfl, rfl⟩
  go_wp2_with fail
  go_ret2
  exact ⟨rfl, T0.out, b0⟩

/-- The half, as the document's own window reckons it. -/
theorem hv_doc {m f : Int} : min 65535 (max (2 * m) (max 0 f / 2)) = hv m f := by unfold hv; omega
theorem rlost_any (b : Nat) (t : Wn) (f : Int) (w : World) (h : RB b t w) (ok : WOk t) (f0 : -9223372036854775808 ≤ f) (f1 : f ≤ 9223372036854775807) :
    Calls Try.prog 9 #[.pointer (some ⟨b, 0, none⟩), .int .i64 f] w fun e w' => e = .returned (.tuple #[]) ∧ RB b (lost t f) w' ∧ Kp [b] w w' := by
  have c0 := h.c0
  have m0 := ok.m0
  have m1 := ok.m1
  have f2 := h.free 2
  have c2 := h.c2
  have g1 := h.free 1
  have d1 := h.c1
  have R1 := Lib.hid (h.s2 (min 65535 (max (2 * t.mss) (max 0 f / 2))))
  have d2 := R1.out.c2
  have HF : Hid (RB b (lost t f) ((w.setCell ⟨b, 2, none⟩ (.int .i64 (min 65535 (max (2 * t.mss) (max 0 f / 2))))).setCell ⟨b, 1, none⟩ (.int .i64 (min 65535 (max (2 * t.mss) (max 0 f / 2))))) ∧ Kp [b] w ((w.setCell ⟨b, 2, none⟩ (.int .i64 (min 65535 (max (2 * t.mss) (max 0 f / 2))))).setCell ⟨b, 1, none⟩ (.int .i64 (min 65535 (max (2 * t.mss) (max 0 f / 2)))))) := ⟨by unfold lost; rw [← hv_doc]; exact R1.out.s1 _, ((Kp.refl _ _).setCell (Or.inl (by simp)) _).setCell (Or.inl (by simp)) _⟩
  clear h ok R1
  generalize lost t f = t' at *
  generalize t.mss = m at *
  generalize t.size = s at *
  generalize t.slow = l at *
  go_enter Try.func9, Try.ntmps9
  go_wp2_with fail
  refine bodyPost_end (results_none rfl _ _ _) rfl ?_
  exact ⟨rfl, HF.out⟩
theorem rsil_any (b : Nat) (t : Wn) (f : Int) (w : World) (h : RB b t w) (ok : WOk t) (f0 : -9223372036854775808 ≤ f) (f1 : f ≤ 9223372036854775807) :
    Calls Try.prog 11 #[.pointer (some ⟨b, 0, none⟩), .int .i64 f] w fun e w' => e = .returned (.tuple #[]) ∧ RB b (sil t f) w' ∧ Kp [b] w w' := by
  have HH : Hid (Calls Try.prog 9 #[.pointer (some ⟨b, 0, none⟩), .int .i64 f] w fun e w' => e = .returned (.tuple #[]) ∧ RB b ⟨t.mss, hv t.mss f, hv t.mss f⟩ w' ∧ Kp [b] w w') := rlost_any b t f w h ok f0 f1
  have HE : Hid (∀ w', RB b ⟨t.mss, hv t.mss f, hv t.mss f⟩ w' → Kp [b] w w' → RB b (sil t f) (w'.setCell ⟨b, 1, none⟩ (.int .i64 t.mss)) ∧ Kp [b] w (w'.setCell ⟨b, 1, none⟩ (.int .i64 t.mss))) := fun w' h1 h2 => ⟨h1.s1 _, h2.setCell (Or.inl (by simp)) _⟩
  generalize sil t f = t' at *
  generalize hv t.mss f = v at *
  clear h ok
  go_enter Try.func11, Try.ntmps11
  go_wp2_with fail
  refine HH.out.mono ?_; rintro e w1 ⟨rfl, h1, h2⟩
  have f1 := h1.free 1
  have d0 := h1.c0
  have d1 := h1.c1
  have HF := Lib.hid (HE.out _ h1 h2)
  clear h1 h2 HE HH
  go_wp2_with fail
  refine bodyPost_end (results_none rfl _ _ _) rfl ?_
  exact ⟨rfl, HF.out⟩

end Go.Proofs.Ytlhbdljajalmaaa
