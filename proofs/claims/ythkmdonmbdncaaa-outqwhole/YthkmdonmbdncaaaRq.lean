/-
  The document's own queue: contracts of unacked, End, Room, Write, Ack.
-/
import Derived.Test.YthkmdonmbdncaaaRn
import Derived.Test.YthkmdonmbdncaaaWq
namespace Go.Proofs.Ythkmdonmbdncaaa
open Go.RowKit
set_option linter.unusedVariables false
set_option linter.unusedSimpArgs false
section
variable {b : Nat} {A : ByteArray} {sh : Bool} {u c s : Int} {w : World}
set_option maxHeartbeats 1000000 in
theorem unacked_any (h : UR b A sh u c s w) (u0 : 0 ≤ u) (u1 : u ≤ 9007199254740992) (hA : A.size ≤ 4503599627370496) (n : Int) (hn : n = (A.size : Int) - min (A.size : Int) (max 0 (u - 1))) :
    Calls Try.prog 31 #[.pointer (some ⟨b, 0, none⟩)] w fun e w' => e = .returned (.int .i64 n) ∧ ∃ m, w' = w.drewN m := by
  have c0 := h.c0
  have c2 := h.c2
  have HN := Lib.hid hn
  clear h hn
  go_enter Try.func31, Try.ntmps31
  go_wp2_with fail
  go_quiet (fail)
  go_wp2_with fail
  go_ret
  exact ⟨ret_int (by rw [HN.out]), _, rfl⟩
theorem rend_any (h : UR b A sh u c s w) (hA : A.size ≤ 4503599627370496) (n : Int) (hn : n = (A.size : Int) + 1 + if sh = true then 1 else 0) :
    Calls Try.prog 22 #[.pointer (some ⟨b, 0, none⟩)] w fun e w' => e = .returned (.int .i64 n) ∧ ∃ m, w' = w.drewN m := by
  have c0 := h.c0
  have c1 := h.c1
  have HT : Hid (∀ w', Calls Try.prog 28 #[.bool sh] w' fun e w'' => e = .returned (.int .i64 (if sh = true then 1 else 0)) ∧ w'' = w') := fun w' => truth_any sh w'
  have HN := Lib.hid hn
  have hk0 : (0 : Int) ≤ (if sh = true then 1 else 0) := by split <;> omega
  have hk1 : (if sh = true then 1 else 0 : Int) ≤ 1 := by split <;> omega
  clear h hn
  generalize (if sh = true then 1 else 0 : Int) = k at *
  go_enter Try.func22, Try.ntmps22
  go_wp2_with fail
  go_quiet ((go_at_call 28; exact Calls.quiet_of_same (HT.out _)))
  go_wp2_with fail
  go_ret
  exact ⟨ret_int (by rw [HN.out]; omega), _, rfl⟩
theorem rroom_any (h : UR b A sh u c s w) (u0 : 0 ≤ u) (u1 : u ≤ 9007199254740992) (hA : A.size ≤ 4503599627370496) (n : Int) (hn : n = if sh = true then 0 else 2048 - ((A.size : Int) - min (A.size : Int) (max 0 (u - 1)))) :
    Calls Try.prog 24 #[.pointer (some ⟨b, 0, none⟩)] w fun e w' => e = .returned (.int .i64 n) ∧ ∃ m, w' = w.drewN m := by
  have c1 := h.c1
  obtain ⟨k, hk⟩ : ∃ k, k = (A.size : Int) - min (A.size : Int) (max 0 (u - 1)) := ⟨_, rfl⟩
  have HU : Hid (Calls Try.prog 31 #[.pointer (some ⟨b, 0, none⟩)] w fun e w' => e = .returned (.int .i64 k) ∧ ∃ m, w' = w.drewN m) := unacked_any h u0 u1 hA k hk
  have k0 : 0 ≤ k := by omega
  have k1 : k ≤ 4503599627370496 := by omega
  rw [← hk] at hn
  clear h hk
  cases sh
  · obtain rfl : n = 2048 - k := by simpa using hn
    clear hn
    go_enter Try.func24, Try.ntmps24
    go_wp2_with fail
    refine HU.out.mono ?_; rintro e w1 ⟨rfl, m, rfl⟩
    go_wp2_with fail
    go_ret
    exact ⟨rfl, m, rfl⟩
  · obtain rfl : n = 0 := by simpa using hn
    clear hn
    go_enter Try.func24, Try.ntmps24
    go_wp2_with fail
    go_ret
    exact ⟨rfl, 0, rfl⟩
set_option maxHeartbeats 1000000 in
theorem rwrite_any (t : ByteArray) (h : UR b A sh u c s w) (u0 : 0 ≤ u) (u1 : u ≤ 9007199254740992) (hA : A.size ≤ 4503599627370496) (ht : t.size ≤ maxLen) (r : Nat) (hr2 : r ≤ 2048) (hr : (r : Int) = if sh = true then 0 else 2048 - ((A.size : Int) - min (A.size : Int) (max 0 (u - 1)))) (n : Nat) (hn : n = min t.size r) :
    Calls Try.prog 9 #[.pointer (some ⟨b, 0, none⟩), .string t] w fun e w' => e = .returned (.int .i64 (n : Int)) ∧ UR b (A ++ t.extract 0 n) sh u c s w' ∧ Kp [b] w w' := by
  unfold maxLen at ht
  have HR : Hid (Calls Try.prog 24 #[.pointer (some ⟨b, 0, none⟩)] w fun e w' => e = .returned (.int .i64 (r : Int)) ∧ ∃ m, w' = w.drewN m) := rroom_any h u0 u1 hA r hr
  have hn0 : n ≤ t.size := by omega
  have hn2 : n ≤ 2048 := by omega
  have hm : Hid (min (t.size : Int) (r : Int) = (n : Int)) := by show _ = _; omega
  have zx : (t.extract 0 n).size = n := by simp; omega
  have s1 : ∀ w', (Instr.slice 9 (.string t) none (some (.int .i64 (n : Int))) none).run Try.prog w' = .ok (.string (t.extract 0 n)) w' := fun w' => by
    have := run_slice_string_h (P := Try.prog) w' 9 t Try.underlying9 .i64 n (by omega) (by omega)
    simpa using this
  have t1 : ∀ w', (Op.stringOp .add A (t.extract 0 n)).run Try.prog w' = .ok (.string (A ++ t.extract 0 n)) w' := fun w' => run_string_add_sum w' _ _ (by rw [zx]; omega)
  have HF : Hid (∀ m, (w.drewN m).cell? ⟨b, 0, none⟩ = some (.string A) ∧ (w.drewN m).frozen? ⟨b, 0, none⟩ = false ∧ UR b (A ++ t.extract 0 n) sh u c s ((w.drewN m).drew.setCell ⟨b, 0, none⟩ (.string (A ++ t.extract 0 n))) ∧ Kp [b] w ((w.drewN m).drew.setCell ⟨b, 0, none⟩ (.string (A ++ t.extract 0 n)))) := fun m =>
    ⟨(h.drewN m).c0, (h.drewN m).free 0, (h.drewN m).drew.set0 _, (((Kp.refl _ w).drewN m).drew).setCell (Or.inl (by simp)) _⟩
  clear hn h zx hr
  generalize A ++ t.extract 0 n = R at *
  generalize t.extract 0 n = T at *
  go_enter Try.func9, Try.ntmps9
  go_wp2_with fail
  refine HR.out.mono ?_; rintro e w1 ⟨rfl, m, hw1⟩
  obtain ⟨d0, f0, hF⟩ := HF.out m
  rw [← hw1] at d0 f0 hF
  have HF2 := Lib.hid hF
  clear HF hF hw1
  go_wp2_with fail
  rw [hm.out]
  clear hm HR ht
  go_region
  all_goals go_wp2_with fail
  all_goals go_ret
  all_goals exact ⟨rfl, HF2.out⟩
theorem rack_any (q : Int) (h : UR b A sh u c s w) (u0 : 0 ≤ u) (u1 : u ≤ 9007199254740992) (q0 : -9223372036854775808 ≤ q) (q1 : q ≤ 9223372036854775807) :
    Calls Try.prog 17 #[.pointer (some ⟨b, 0, none⟩), .int .i64 q] w fun e w' => e = .returned (.int .i64 (if q ≤ u ∨ s < q then 0 else q - u)) ∧ (if q ≤ u ∨ s < q then UR b A sh u c s w' else UR b A sh q (max c q) s w') ∧ Kp [b] w w' := by
  have c2 := h.c2
  have c4 := h.c4
  have c3 := h.c3
  by_cases hbad : q ≤ u ∨ s < q
  · have HO : Hid (∀ w', Calls Try.prog 30 #[.int .i64 q, .int .i64 (u + 1), .int .i64 s] w' fun e w'' => e = .returned (.bool true) ∧ w'' = w') := fun w' => outside_t q (u + 1) s w' (by omega)
    have HF : Hid (∀ m, UR b A sh u c s (w.drewN m) ∧ Kp [b] w (w.drewN m)) := fun m => ⟨h.drewN m, (Kp.refl _ w).drewN m⟩
    simp only [if_pos hbad]
    clear h hbad
    go_enter Try.func17, Try.ntmps17
    go_wp2_with fail
    go_quiet ((go_at_call 30; exact Calls.quiet_of_same (HO.out _)))
    go_wp2_with fail
    go_ret
    exact ⟨rfl, HF.out _⟩
  · have HO : Hid (∀ w', Calls Try.prog 30 #[.int .i64 q, .int .i64 (u + 1), .int .i64 s] w' fun e w'' => e = .returned (.bool false) ∧ w'' = w') := fun w' => outside_f q (u + 1) s w' (by omega)
    have HF : Hid (∀ m, (w.drewN m).cell? ⟨b, 2, none⟩ = some (.int .i64 u) ∧ (w.drewN m).cell? ⟨b, 3, none⟩ = some (.int .i64 c) ∧ (w.drewN m).frozen? ⟨b, 2, none⟩ = false ∧ (w.drewN m).frozen? ⟨b, 3, none⟩ = false ∧ UR b A sh q (max c q) s (((w.drewN m).setCell ⟨b, 2, none⟩ (.int .i64 q)).setCell ⟨b, 3, none⟩ (.int .i64 (max c q))) ∧ Kp [b] w (((w.drewN m).setCell ⟨b, 2, none⟩ (.int .i64 q)).setCell ⟨b, 3, none⟩ (.int .i64 (max c q)))) := fun m =>
      ⟨(h.drewN m).c2, (h.drewN m).c3, (h.drewN m).free 2, (h.drewN m).free 3, ((h.drewN m).set2 q).set3 _, (((Kp.refl _ w).drewN m).setCell (Or.inl (by simp)) _).setCell (Or.inl (by simp)) _⟩
    simp only [if_neg hbad]
    have hq : u < q := by omega
    clear h hbad
    go_enter Try.func17, Try.ntmps17
    go_wp2_with fail
    go_quiet ((go_at_call 30; exact Calls.quiet_of_same (HO.out _)))
    obtain ⟨d2, d3, f2, f3, hF⟩ := HF.out nq
    have HF2 := Lib.hid hF
    clear HF hF
    generalize w.drewN nq = w1 at *
    go_wp2_with fail
    go_ret
    exact ⟨rfl, HF2.out⟩
end
end Go.Proofs.Ythkmdonmbdncaaa
