/-
  The walk of IpShort.
-/
import Derived.Test.YtlkodoiiigndoaaAny
namespace Go.Proofs.Ytlkodoiiigndoaa
open Go.RowKit
set_option linter.unusedVariables false
set_option linter.unusedSimpArgs false

theorem empty_of (s : ByteArray) (h : s.size = 0) : s = ⟨#[]⟩ := by
  apply ByteArray.ext; exact Array.eq_empty_of_size_eq_zero h
theorem filled (s : ByteArray) (h : s.size ≠ 0) : s.toList.isEmpty = false := by
  rw [List.isEmpty_eq_false_iff]
  intro hc
  have := (toList_nil_iff_emptyBytes s).1 hc
  rw [this] at h; exact h rfl

set_option maxHeartbeats 2000000 in
theorem short_bad (p : Pk) (a : Int) (rest : ByteArray) (f : Fits p) (hk : chk p ≠ 0) (w : World) :
    Calls Try.prog 7 #[pv p, .int .i64 a, .string rest] w fun e w' => e = .returned (.bool true) ∧ Below w.heap.size w w' := by
  have H8 : Hid (∀ w', Calls Try.prog 8 #[pv p] w' fun e w'' => e = .returned (.tuple #[.string ⟨#[]⟩, .int .i64 (chk p)]) ∧ Below w'.heap.size w' w'') := fun w' => write_bad p w' hk
  have H0 : Hid (∀ w', Calls Try.prog 12 #[.string ⟨#[]⟩] w' fun e w'' => e = .returned (.tuple #[pv pz, .int .i64 3]) ∧ Below w'.heap.size w' w'') := fun w' => read_short ⟨#[]⟩ w' (by decide)
  have b0 : Below w.heap.size w (w.alloc (.cells (pc p) 24)) := (Below.refl _ _).alloc (Nat.le_refl _) _
  have P0 := Lib.hid (PB.new w p)
  have HU := Lib.hid Try.underlying24
  have HI : Hid ((Try.prog.info? 24).map (·.size) = some (pcl p).length) := info24
  generalize chk p = c at *
  have hne : (c != 0) = true := by simpa using hk
  generalize pz = z at *
  go_enter Try.func7, Try.ntmps7
  go_wp2_with (refine wpList_load_mid rfl _ _ rfl _ _ rfl (pcl p) _ P0.out.range HU.out rfl HI.out ?_)
  refine (H8.out _).mono ?_; rintro e w1 ⟨rfl, hb1⟩
  have b1 := b0.trans (hb1.mono (by simp))
  go_wp2_with fail
  refine (H0.out _).mono ?_; rintro e w2 ⟨rfl, hb2⟩
  have b2 := b1.trans (hb2.mono (by have := b1.size; omega))
  have b3 := b2.alloc (by have := b2.size; omega) (.cells (pc z) 24)
  clear hb1 hb2 b0 b1 b2
  go_wp2
  go_ret
  exact ⟨rfl, b3⟩

set_option maxHeartbeats 2000000 in
theorem short_ok (p : Pk) (a : Int) (rest : ByteArray) (f : Fits p) (ha : -9223372036854775808 ≤ a ∧ a ≤ 9223372036854775807) (hr : rest.size ≤ 140737488351232) (hk : chk p = 0) (w : World) :
    Calls Try.prog 7 #[pv p, .int .i64 a, .string rest] w fun e w' => e = .returned (.bool true) ∧ Below w.heap.size w w' := by
  have hbody := (chk_zero p hk).2
  have hsz := wr_size p
  have H8 : Hid (∀ w', Calls Try.prog 8 #[pv p] w' fun e w'' => e = .returned (.tuple #[.string (wr p), .int .i64 0]) ∧ Below w'.heap.size w' w'') := fun w' => write_ok p w' hk f.src f.dst
  have H0 : Hid (∀ w', Calls Try.prog 12 #[.string ⟨#[]⟩] w' fun e w'' => e = .returned (.tuple #[pv pz, .int .i64 3]) ∧ Below w'.heap.size w' w'') := fun w' => read_short ⟨#[]⟩ w' (by decide)
  obtain ⟨k, hkk⟩ := Int.eq_ofNat_of_zero_le (Int.emod_nonneg a (show ((wr p).size : Int) ≠ 0 by omega))
  have hlt : k < (wr p).size := by
    have := Int.emod_lt_of_pos a (show (0 : Int) < ((wr p).size : Int) by omega)
    omega
  have HR : Hid (∀ w', Calls Try.prog 17 #[.int .i64 a, .int .i64 ((wr p).size : Int)] w' fun e w'' => e = .returned (.int .i64 (k : Int)) ∧ w'' = w') := fun w' => by
    have := rest_any a ((wr p).size : Int) w' (by omega) (by omega) ha.1 ha.2
    rwa [hkk] at this
  have hsl : ∀ w', (Instr.slice 9 (.string (wr p)) none (some (.int .i64 (k : Int))) none).run Try.prog w' = .ok (.string ((wr p).extract 0 k)) w' := fun w' => by
    have := run_slice_string_h (P := Try.prog) w' 9 (wr p) Try.underlying9 .i64 (k : Int) (by omega) (by omega)
    simpa using this
  have H1 : Hid (∀ w', Calls Try.prog 12 #[.string ((wr p).extract 0 k)] w' fun e w'' => e = .returned (.tuple #[pv (rt ((wr p).extract 0 k)), .int .i64 3]) ∧ Below w'.heap.size w' w'') := fun w' => by
    have := read_any ((wr p).extract 0 k) (by simp; omega) w'
    rwa [rerr_prefix p f hk k (by omega)] at this
  have hadd : ∀ w', (Op.stringOp .add (wr p) rest).run Try.prog w' = .ok (.string (wr p ++ rest)) w' := fun w' => run_string_add_sum w' _ _ (by omega)
  have hrs : (wr p ++ rest).size ≤ 281474976710656 := by rw [ByteArray.size_append]; omega
  have H2 : Hid (∀ w', Calls Try.prog 12 #[.string (wr p ++ rest)] w' fun e w'' => e = .returned (.tuple #[pv (rt (wr p ++ rest)), .int .i64 (rerr (wr p ++ rest))]) ∧ Below w'.heap.size w' w'') := fun w' => read_any _ hrs w'
  have HE : Hid (rerr (wr p ++ rest) = if rest.size = 0 then 0 else 4) := by
    show _ = _
    by_cases h0 : rest.size = 0
    · rw [if_pos h0, empty_of rest h0]
      have : wr p ++ ⟨#[]⟩ = wr p := by
        apply ByteArray.ext; apply Array.toList_inj.1; simp [ByteArray.data_append]
      rw [this]; exact (rerr_wr p f hk).1
    · rw [if_neg h0]; exact rerr_more p f hk rest h0
  have hfill := filled (wr p) (by omega)
  have b0 : Below w.heap.size w (w.alloc (.cells (pc p) 24)) := (Below.refl _ _).alloc (Nat.le_refl _) _
  have P0 := Lib.hid (PB.new w p)
  have HU := Lib.hid Try.underlying24
  have HI : Hid ((Try.prog.info? 24).map (·.size) = some (pcl p).length) := info24
  generalize rt ((wr p).extract 0 k) = q1 at *
  generalize rt (wr p ++ rest) = q2 at *
  generalize rerr (wr p ++ rest) = E at *
  generalize (wr p).extract 0 k = X at *
  generalize wr p ++ rest = Y at *
  generalize wr p = S at *
  generalize pz = z at *
  clear hkk hlt ha hbody hsz hrs
  go_enter Try.func7, Try.ntmps7
  go_wp2_with (refine wpList_load_mid rfl _ _ rfl _ _ rfl (pcl p) _ P0.out.range HU.out rfl HI.out ?_)
  refine (H8.out _).mono ?_; rintro e w1 ⟨rfl, hb1⟩
  have b1 := b0.trans (hb1.mono (by simp))
  go_wp2_with fail
  refine (H0.out _).mono ?_; rintro e w2 ⟨rfl, hb2⟩
  have b2 := b1.trans (hb2.mono (by have := b1.size; omega))
  have b3 := b2.alloc (by have := b2.size; omega) (.cells (pc z) 24)
  clear hb1 hb2 b0 b1 b2
  go_wp2_with fail
  refine (HR.out _).mono ?_; rintro e w3 ⟨rfl, rfl⟩
  go_wp2_with fail
  refine (H1.out _).mono ?_; rintro e w4 ⟨rfl, hb4⟩
  have b4 := b3.trans (hb4.mono b3.size)
  have b5 := b4.alloc b4.size (.cells (pc q1) 24)
  clear hb4 b3 b4
  go_wp2_with fail
  refine (H2.out _).mono ?_; rintro e w6 ⟨rfl, hb6⟩
  have b6 := b5.trans (hb6.mono b5.size)
  have b7 := b6.alloc b6.size (.cells (pc q2) 24)
  clear hb6 b5 b6
  by_cases h0 : rest.size = 0
  · have e0 : E = 0 := by rw [HE.out, if_pos h0]
    have er := empty_of rest h0
    subst e0 er
    go_wp2
    go_ret
    exact ⟨rfl, b7⟩
  · have e0 : E = 4 := by rw [HE.out, if_neg h0]
    have er := filled rest h0
    subst e0
    go_wp2
    go_ret
    exact ⟨rfl, b7⟩

theorem short_law (p : Pk) (a : Int) (rest : ByteArray) (f : Fits p) (ha : -9223372036854775808 ≤ a ∧ a ≤ 9223372036854775807) (hr : rest.size ≤ 140737488351232) (w : World) :
    Calls Try.prog 7 #[pv p, .int .i64 a, .string rest] w fun e w' => e = .returned (.bool true) ∧ Below w.heap.size w w' := by
  by_cases hk : chk p = 0
  · exact short_ok p a rest f ha hr hk w
  · exact short_bad p a rest f hk w
end Go.Proofs.Ytlkodoiiigndoaa
