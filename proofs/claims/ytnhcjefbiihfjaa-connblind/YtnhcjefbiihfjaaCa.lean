/-
  Contracts of package conn: what a connection tells of itself, and what is set in it.
-/
import Derived.Test.YtnhcjefbiihfjaaCq
namespace Go.Proofs.Ytnhcjefbiihfjaa
open Go.RowKit
open Tc (Sg gchk gv gc)
set_option linter.unusedVariables false
set_option linter.unusedSimpArgs false

theorem cport_any (n : Int) (w : World) :
    Calls Try.prog 19 #[.int .i64 n] w fun e w' => e = .returned (.bool (decide (1 ≤ n ∧ n ≤ 65535))) ∧ w' = w := by
  by_cases h1 : 1 ≤ n
  · by_cases h2 : n ≤ 65535
    · rw [decide_eq_true ⟨h1, h2⟩]
      go_enter Try.func19, Try.ntmps19
      go_wp2
      go_ret
      exact ⟨rfl, rfl⟩
    · rw [decide_eq_false (fun h => h2 h.2)]
      go_enter Try.func19, Try.ntmps19
      go_wp2
      go_ret
      exact ⟨rfl, rfl⟩
  · rw [decide_eq_false (fun h => h1 h.1)]
    go_enter Try.func19, Try.ntmps19
    go_wp2
    go_ret
    exact ⟨rfl, rfl⟩
section
variable {b k : Nat} {c : Cn} {P : Pt} {w : World}
theorem number_any (h : CT b c P w) (p : Int) :
    Calls Try.prog 33 #[ptr b, .int .i64 p] w fun e w' => e = .returned (.int .u32 ((Cn.nm c.iss p : Nat) : Int)) ∧ w' = w := by
  have c4 := h.c4
  have HN : Hid (∀ x : Int, x = ((c.iss : Int) + p) % 4294967296 → x = ((Cn.nm c.iss p : Nat) : Int)) := fun x hx => by rw [hx, nm_cast]
  clear h
  generalize ((Cn.nm c.iss p : Nat) : Int) = N at *
  generalize (c.iss : Int) = s at *
  go_enter Try.func33, Try.ntmps33
  go_wp2_with fail
  go_ret
  exact ⟨ret_int (HN.out _ (by omega)), rfl⟩
theorem end_any (h : CT b c P w) (x : Int) :
    Calls Try.prog 21 #[ptr b, .int .i64 x] w fun e w' => e = .returned (.tuple #[]) ∧ CT b (c.done x) P w' ∧ Up b P P w w' := by
  have c6 := h.c6
  have c7 := h.c7
  have f6 := h.free 6
  have f7 := h.free 7
  have H2 : Hid (CT b (c.done x) P ((w.setCell ⟨b, 6, none⟩ (.int .i64 0)).setCell ⟨b, 7, none⟩ (.int .i64 x))) := (h.s6 0).s7 x
  have U2 : Hid (Up b P P w ((w.setCell ⟨b, 6, none⟩ (.int .i64 0)).setCell ⟨b, 7, none⟩ (.int .i64 x))) := ((Up.refl _ _ _).set _ _).set _ _
  clear h
  go_enter Try.func21, Try.ntmps21
  go_wp2_with fail
  refine bodyPost_end (results_none rfl _ _ _) rfl ?_
  exact ⟨rfl, H2.out, U2.out⟩
theorem wait_any (h : CT b c P w) (ok : COk k c) :
    Calls Try.prog 90 #[ptr b] w fun e w' => e = .returned (.tuple #[]) ∧ CT b c.wait P w' ∧ Up b P P w w' := by
  have c6 := h.c6
  have c17 := h.c17
  have c21 := h.c21
  have f6 := h.free 6
  have f21 := h.free 21
  have t0 := ok.ti.1
  have t1 := ok.ti.2
  have H2 : Hid (CT b c.wait P ((w.setCell ⟨b, 6, none⟩ (.int .i64 9)).setCell ⟨b, 21, none⟩ (.int .i64 (c.time + 20)))) := (h.s6 9).s21 (c.time + 20)
  have U2 : Hid (Up b P P w ((w.setCell ⟨b, 6, none⟩ (.int .i64 9)).setCell ⟨b, 21, none⟩ (.int .i64 (c.time + 20)))) := ((Up.refl _ _ _).set _ _).set _ _
  clear h ok
  go_enter Try.func90, Try.ntmps90
  go_wp2_with fail
  refine bodyPost_end (results_none rfl _ _ _) rfl ?_
  exact ⟨rfl, H2.out, U2.out⟩
theorem state_any (h : CT b c P w) :
    Calls Try.prog 6 #[ptr b] w fun e w' => e = .returned (.int .i64 c.st) ∧ w' = w := by
  have c6 := h.c6
  clear h
  go_enter Try.func6, Try.ntmps6
  go_wp2_with fail
  go_ret
  exact ⟨rfl, rfl⟩
theorem why_any (h : CT b c P w) :
    Calls Try.prog 7 #[ptr b] w fun e w' => e = .returned (.int .i64 c.why) ∧ w' = w := by
  have c7 := h.c7
  clear h
  go_enter Try.func7, Try.ntmps7
  go_wp2_with fail
  go_ret
  exact ⟨rfl, rfl⟩
theorem flight_any (h : CT b c P w) (ok : COk k c) (hk : Few k) :
    Calls Try.prog 42 #[ptr b] w fun e w' => e = .returned (.int .i64 c.flight) ∧ ∃ m, w' = w.drewN m := by
  have HC : Hid (∀ m, Calls Try.prog 65 #[ptr P.po] (w.drewN m) fun e w' => e = .returned (.int .i64 c.o.c) ∧ w' = w.drewN m) := fun m => Oq.q_cur (h.drewN m).out
  have HU : Hid (∀ m, Calls Try.prog 66 #[ptr P.po] (w.drewN m) fun e w' => e = .returned (.int .i64 c.o.u) ∧ w' = w.drewN m) := fun m => Oq.q_una (h.drewN m).out
  obtain ⟨b1, b2, b3, b4, b5⟩ := ok.ob hk
  have c10 := h.c10
  have HF : Hid (c.flight = c.o.c - c.o.u) := rfl
  clear h ok hk
  generalize c.flight = F at *
  generalize c.o.c = x at *
  generalize c.o.u = y at *
  generalize P.po = po at *
  go_enter Try.func42, Try.ntmps42
  go_wp2_with fail
  go_quiet (first | (go_at_call 65; exact Calls.quiet_of_same (HC.out _)) | (go_at_call 66; exact Calls.quiet_of_same (HU.out _)))
  go_wp2_with fail
  go_ret
  exact ⟨ret_int HF.out.symm, _, rfl⟩
theorem next_any (h : CT b c P w) {t : Iq.St} (ht : c.i = some t) :
    Calls Try.prog 57 #[ptr b] w fun e w' => e = .returned (.int .u32 ((c.next : Nat) : Int)) ∧ ∃ m, w' = w.drewN m := by
  have HC : Hid (∀ m, Calls Try.prog 76 #[ptr P.pi] (w.drewN m) fun e w' => e = .returned (.int .i64 (Iq.nxt t : Int)) ∧ w' = w.drewN m) := fun m => Iq.next_any ((h.drewN m).inn t ht)
  have c5 := h.c5
  have c12 := h.c12
  have e12 : inV c P = ptr P.pi := by unfold inV; rw [ht]
  rw [e12] at c12
  have HN : Hid (∀ x : Int, x = ((c.irs : Int) + (Iq.nxt t : Int)) % 4294967296 → x = ((c.next : Nat) : Int)) := fun x hx => by
    rw [hx]; unfold Cn.next Cn.nxtI; rw [nm_cast, ht]
  clear h ht e12
  generalize ((c.next : Nat) : Int) = N at *
  generalize (c.irs : Int) = s at *
  generalize (Iq.nxt t : Int) = x at *
  generalize P.pi = p at *
  go_enter Try.func57, Try.ntmps57
  go_wp2_with fail
  go_quiet ((go_at_call 76; exact Calls.quiet_of_same (HC.out _)))
  go_wp2_with fail
  go_ret
  exact ⟨ret_int (HN.out _ (by omega)), _, rfl⟩
end
end Go.Proofs.Ytnhcjefbiihfjaa
