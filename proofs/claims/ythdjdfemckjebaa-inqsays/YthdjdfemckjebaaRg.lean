/-
  Contracts of the document's own queue: InNew, and what it tells of itself.
-/
import Derived.Test.YthdjdfemckjebaaRm
namespace Go.Proofs.Ythdjdfemckjebaa
open Go.RowKit Go.Maps
set_option linter.unusedVariables false
set_option linter.unusedSimpArgs false

theorem da0 : DA (.map []) st0.c := ⟨fun p x h => absurd h (by simp [st0]), fun p => rfl, fun p _ => rfl⟩
theorem rnew_any (w : World) :
    Calls Try.prog 8 #[] w fun e w' => e = .returned (.pointer (some ⟨w.heap.size + 1, 0, none⟩)) ∧ UM (w.heap.size + 1) w.heap.size st0.c 1 0 0 w' ∧ Below w.heap.size w w' := by
  have hmm := @run_makeMap Try.prog
  have T0 : Hid (UM (w.heap.size + 1) w.heap.size st0.c 1 0 0 ((w.alloc (.map #[] 0)).alloc (.cells #[.map (some w.heap.size), .int .i64 1, .int .i64 0] 59))) := by
    refine ⟨?_, .map [], own_on (World.ownsMap_made w Try.prog 3 (plainElem Try.prog 5)) (Below.heap_alloc _ _ _ (by simp)), da0⟩
    have := heap_alloc_new (w.alloc (.map #[] 0)) (.cells #[.map (some w.heap.size), .int .i64 1, .int .i64 0] 59)
    rwa [show (w.alloc (.map #[] 0)).heap.size = w.heap.size + 1 from by simp] at this
  have b0 : Below w.heap.size w ((w.alloc (.map #[] 0)).alloc (.cells #[.map (some w.heap.size), .int .i64 1, .int .i64 0] 59)) := ((Below.refl _ _).alloc (Nat.le_refl _) _).alloc (by simp) _
  go_enter Try.func8, Try.ntmps8
  go_wp2_with fail
  go_ret
  exact ⟨rfl, T0.out, b0⟩
theorem truth_any (o : Bool) (w : World) : Calls Try.prog 30 #[.bool o] w fun e w' => e = .returned (.int .i64 (if o then 1 else 0)) ∧ w' = w := by
  cases o
  · go_enter Try.func30, Try.ntmps30
    go_wp2_with fail
    go_ret
    exact ⟨rfl, rfl⟩
  · go_enter Try.func30, Try.ntmps30
    go_wp2_with fail
    go_ret
    exact ⟨rfl, rfl⟩
theorem outside_any (n lo hi : Int) (w : World) : Calls Try.prog 27 #[.int .i64 n, .int .i64 lo, .int .i64 hi] w fun e w' => e = .returned (.bool (decide (n < lo ∨ hi < n))) ∧ w' = w := by
  by_cases h1 : n < lo
  · have hd : decide (n < lo ∨ hi < n) = true := decide_eq_true (Or.inl h1)
    rw [hd]
    go_enter Try.func27, Try.ntmps27
    go_wp2_with fail
    go_ret
    exact ⟨rfl, rfl⟩
  · have hd : decide (n < lo ∨ hi < n) = decide (hi < n) := by rw [decide_eq_decide]; omega
    rw [hd]
    go_enter Try.func27, Try.ntmps27
    go_wp2_with fail
    go_ret
    exact ⟨rfl, rfl⟩
section
variable {b mb : Nat} {c : Nat → Option UInt8} {f g m : Nat} {w : World}
set_option maxHeartbeats 1000000 in
theorem bytes_any (h : UM b mb c f g m w) (n : Nat) (hf : f ≤ n) (hall : ∀ p, f ≤ p → p < n → (c p).isSome = true) (hn : c n = none) (hn2 : n ≤ 2305843009213693952) :
    Calls Try.prog 29 #[.pointer (some ⟨b, 0, none⟩)] w fun e w' => e = .returned (.int .i64 (n : Int)) ∧ w' = w := by
  have H := Lib.hid h
  have c0 := h.c0
  have c1 := h.c1
  have HA := Lib.hid hall
  have HNn := Lib.hid hn
  clear h hall hn
  go_enter Try.func29, Try.ntmps29
  go_wp2_with fail
  go_loopw [3] (fun i W => ∃ k : Nat, f ≤ k ∧ k ≤ n ∧ i = .int .i64 k ∧ W = w) (fun i _ => n - (intOf i).toNat)
  case atStart => exact ⟨f, Nat.le_refl _, hf, rfl, rfl⟩
  case round =>
    obtain ⟨k, hk1, hk2, rfl, rfl⟩ := hrel
    have hl := H.out.look k (by omega)
    rcases Nat.lt_or_ge k n with hlt | hge
    · rw [HA.out k hk1 hlt] at hl
      go_wp2_with fail
      go_roundw
      case rel => exact ⟨k + 1, by omega, by omega, by go_num, trivial⟩
      case measure => simp only [intOf]; omega
    · obtain rfl : k = n := by omega
      rw [HNn.out] at hl
      have hl : (Instr.lookup 57 (.map (some mb)) (.int .i64 (k : Int)) true).run Try.prog wr = .ok (.tuple #[.int .u8 0, .bool false]) wr := hl
      go_wp2_with fail
      go_ret
      exact ⟨rfl, rfl⟩
end
/-- The document's queue says t. -/
def UT (b mb : Nat) (t : St) (m : Nat) (W : World) : Prop := UM b mb t.c t.f t.e m W
section
variable {b mb m : Nat} {t : St} {w : World}
theorem rbytes_any (h : UT b mb t m w) (ok : Ok t) (hf : t.f ≤ 1152921504606846976) :
    Calls Try.prog 29 #[.pointer (some ⟨b, 0, none⟩)] w fun e w' => e = .returned (.int .i64 (t.n : Int)) ∧ w' = w :=
  bytes_any h t.n ok.fn ok.all ok.at' (by have := ok.nw; omega)
theorem rover_any (h : UT b mb t m w) (ok : Ok t) (hf : t.f ≤ 1152921504606846976) :
    Calls Try.prog 21 #[.pointer (some ⟨b, 0, none⟩)] w fun e w' => e = .returned (.bool (over t)) ∧ ∃ k, w' = w.drewN k := by
  have HB : Hid (∀ k, Calls Try.prog 29 #[.pointer (some ⟨b, 0, none⟩)] (w.drewN k) fun e w' => e = .returned (.int .i64 (t.n : Int)) ∧ w' = w.drewN k) := fun k => rbytes_any (h.drewN k) ok hf
  have c2 := h.c2
  have HO : Hid (over t = decide (0 < t.e ∧ t.n = t.e)) := rfl
  clear h ok
  by_cases h1 : 0 < t.e
  · have d1 : decide ((0 : Int) < (t.e : Int)) = true := decide_eq_true (by omega)
    by_cases h2 : t.n = t.e
    · have HOe : Hid (over t = true) := by show _ = _; rw [HO.out]; exact decide_eq_true ⟨h1, h2⟩
      have d2 : ((t.n : Int) == (t.e : Int)) = true := beq_iff_eq.2 (by omega)
      clear h1 h2
      generalize (t.n : Int) = n at *
      generalize (t.e : Int) = g at *
      go_enter Try.func21, Try.ntmps21
      go_wp2_with fail
      go_quiet ((go_at_call 29; exact Calls.quiet_of_same (HB.out _)))
      go_wp2_with fail
      go_ret
      exact ⟨ret_bool HOe.out.symm, _, rfl⟩
    · have HOe : Hid (over t = false) := by show _ = _; rw [HO.out]; exact decide_eq_false (fun h => h2 h.2)
      have d2 : ((t.n : Int) == (t.e : Int)) = false := beq_eq_false_iff_ne.2 (by omega)
      clear h1 h2
      generalize (t.n : Int) = n at *
      generalize (t.e : Int) = g at *
      go_enter Try.func21, Try.ntmps21
      go_wp2_with fail
      go_quiet ((go_at_call 29; exact Calls.quiet_of_same (HB.out _)))
      go_wp2_with fail
      go_ret
      exact ⟨ret_bool HOe.out.symm, _, rfl⟩
  · have HOe : Hid (over t = false) := by show _ = _; rw [HO.out]; exact decide_eq_false (fun h => h1 h.1)
    have d1 : decide ((0 : Int) < (t.e : Int)) = false := decide_eq_false (by omega)
    clear h1
    generalize (t.e : Int) = g at *
    go_enter Try.func21, Try.ntmps21
    go_wp2_with fail
    go_quiet ((go_at_call 29; exact Calls.quiet_of_same (HB.out _)))
    go_wp2_with fail
    go_ret
    exact ⟨ret_bool HOe.out.symm, _, rfl⟩
theorem rnext_any (h : UT b mb t m w) (ok : Ok t) (hf : t.f ≤ 1152921504606846976) :
    Calls Try.prog 15 #[.pointer (some ⟨b, 0, none⟩)] w fun e w' => e = .returned (.int .i64 (nxt t : Int)) ∧ ∃ k, w' = w.drewN k := by
  have HB : Hid (Calls Try.prog 29 #[.pointer (some ⟨b, 0, none⟩)] w fun e w' => e = .returned (.int .i64 (t.n : Int)) ∧ w' = w) := rbytes_any h ok hf
  have HO : Hid (Calls Try.prog 21 #[.pointer (some ⟨b, 0, none⟩)] w fun e w' => e = .returned (.bool (over t)) ∧ ∃ k, w' = w.drewN k) := rover_any h ok hf
  have HT := Lib.hid truth_any
  have HN : Hid ((t.n : Int) + (if over t then 1 else 0) = (nxt t : Int)) := by show _ = _; unfold nxt; split <;> omega
  have b1 : (0 : Int) ≤ (t.n : Int) := by omega
  have b2 : (t.n : Int) ≤ 1152921504606849024 := by have := ok.nw; omega
  have b3 : (0 : Int) ≤ (if over t then 1 else 0) := by split <;> omega
  have b4 : (if over t then (1 : Int) else 0) ≤ 1 := by split <;> omega
  clear h ok
  generalize hz : (if over t then (1 : Int) else 0) = z at *
  have HZ := Lib.hid hz
  clear hz
  generalize (nxt t : Int) = N at *
  go_enter Try.func15, Try.ntmps15
  go_wp2_with fail
  refine HB.out.mono ?_
  rintro e w1 ⟨rfl, rfl⟩
  go_wp2_with fail
  refine HO.out.mono ?_
  rintro e w2 ⟨rfl, hm⟩
  have HM := Lib.hid hm
  clear hm
  go_wp2_with fail
  refine (HT.out _ _).mono ?_
  rintro e w3 ⟨rfl, rfl⟩
  rw [HZ.out]
  go_wp2_with fail
  go_ret
  exact ⟨ret_int HN.out, HM.out⟩
theorem rready_any (h : UT b mb t m w) (ok : Ok t) (hf : t.f ≤ 1152921504606846976) :
    Calls Try.prog 19 #[.pointer (some ⟨b, 0, none⟩)] w fun e w' => e = .returned (.int .i64 (rdy t : Int)) ∧ ∃ k, w' = w.drewN k := by
  have HB : Hid (∀ k, Calls Try.prog 29 #[.pointer (some ⟨b, 0, none⟩)] (w.drewN k) fun e w' => e = .returned (.int .i64 (t.n : Int)) ∧ w' = w.drewN k) := fun k => rbytes_any (h.drewN k) ok hf
  have c1 := h.c1
  have hfn := ok.fn
  have hnw := ok.nw
  have HR : Hid ((t.n : Int) - (t.f : Int) = (rdy t : Int)) := by show _ = _; unfold rdy; omega
  have b1 : (0 : Int) ≤ (t.f : Int) := by omega
  have b2 : (t.n : Int) ≤ 1152921504606849024 := by omega
  have b3 : (t.f : Int) ≤ (t.n : Int) := by omega
  clear h ok hfn hnw
  generalize (rdy t : Int) = R at *
  generalize (t.n : Int) = n at *
  generalize (t.f : Int) = f at *
  go_enter Try.func19, Try.ntmps19
  go_wp2_with fail
  go_quiet ((go_at_call 29; exact Calls.quiet_of_same (HB.out _)))
  go_wp2_with fail
  go_ret
  exact ⟨ret_int HR.out, _, rfl⟩
theorem rwindow_any (h : UT b mb t m w) (ok : Ok t) (hf : t.f ≤ 1152921504606846976) :
    Calls Try.prog 17 #[.pointer (some ⟨b, 0, none⟩)] w fun e w' => e = .returned (.int .i64 (wnd t)) ∧ ∃ k, w' = w.drewN k := by
  have HV := Lib.hid (rready_any h ok hf)
  have hfn := ok.fn
  have hnw := ok.nw
  have HR : Hid (wnd t = 2048 - (rdy t : Int)) := by show _ = _; unfold rdy wnd; omega
  have h1 : rdy t ≤ 2048 := by unfold rdy; omega
  clear h ok hfn hnw
  generalize wnd t = R at *
  go_enter Try.func17, Try.ntmps17
  go_wp2_with fail
  refine HV.out.mono ?_
  rintro e w1 ⟨rfl, hm⟩
  have HM := Lib.hid hm
  clear hm
  go_wp2_with fail
  go_ret
  exact ⟨ret_int HR.out.symm, HM.out⟩
end
end Go.Proofs.Ythdjdfemckjebaa
