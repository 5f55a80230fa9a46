/-
  Contract of a head's fault.
-/
import Derived.Test.YtlkodoiiigndoaaFour
import Derived.Deep.WholeRow
namespace Go.Proofs.Ytlkodoiiigndoaa
open Go.RowKit
set_option linter.unusedVariables false
set_option linter.unusedSimpArgs false

/-- What is wrong with a head of n bytes in all. -/
def flt (B : Nat → UInt8) (n : Nat) : Int :=
  if (B 0).toNat ≠ 69 then 6 else if (B 1).toNat ≠ 0 ∨ 32768 ≤ w16 (B 6) (B 7) then 4 else if n < w16 (B 2) (B 3) then 3 else if w16 (B 2) (B 3) < n then 4 else if w16 (B 10) (B 11) ≠ hs B then 5 else 0

theorem and_bit (x i m : Nat) (hm : 2 ^ i = m) (hx : x ≤ 65535) (hi : m < 65536) : bits BinOp.and IntKind.i64 (x : Int) (m : Int) = ((x / m % 2 * m : Nat) : Int) := by
  rw [(bits_nat .i64 32 (by decide) wraps_i64 x m (by omega) (by omega)).1, ← hm]
  congr 1
  apply Nat.eq_of_testBit_eq
  intro j
  rw [Nat.testBit_and, Nat.testBit_two_pow]
  have t := Nat.testBit_eq_decide_div_mod_eq (x := x) (i := i)
  rcases Nat.mod_two_eq_zero_or_one (x / 2 ^ i) with e | e
  · rw [e, Nat.zero_mul, Nat.zero_testBit]
    by_cases hj : i = j
    · subst hj; rw [t, e]; simp
    · simp [hj]
  · rw [e, Nat.one_mul, Nat.testBit_two_pow]
    by_cases hj : i = j
    · subst hj; rw [t, e]; simp
    · simp [hj]

/-- A guarded load that is carried out. -/
theorem wpList_load_guard {P : Program} {ops : Array Oper} {rest : List Oper} {op : Oper} {a : Act} {w : World} {Q : Exit → Act → World → Prop} (hw : Region.wanted op (yielded ops a.tmps) = true) (ty : TypeId) (x : Operand) (ho : op.op = .load ty x)
    (b o : Nat) (hx : a.eval x = .pointer (some ⟨b, o, none⟩)) (cs : List Value) (d : TypeDesc) (hc : w.rangeAt b o cs)
    (hu : P.underlying ty = some d) (hd : d.isRow = true) (hi : (P.info? ty).map (·.size) = some cs.length)
    (h : wpList P ops Q rest (a.put op.dst (.agg cs.toArray)) w) : wpList P ops Q (op :: rest) a w :=
  wpList_step fun K hK => by
    rw [if_pos hw]
    exact wp_load_mid ty x ho b o hx cs d hc hu hd hi (hK _ _ h)

theorem lcf (W : World) (g n : Nat) (l : List Value) (h : W.rangeAt g 0 l) (hn : l.length = n) : (loadCellsFrom ⟨g, 0, none⟩ 0 n #[]).run Try.prog W = .ok l.toArray W := by
  subst hn
  have := run_loadCells_list (P := Try.prog) W ⟨g, 0, none⟩ l (fun j v hv => by rw [Addr.add_mid]; exact h j v hv)
  simpa [loadCells] using this

set_option maxHeartbeats 2000000 in
theorem fault_1 (B : Nat → UInt8) (n : Nat) (w : World) (hn : (n : Int) ≤ 9223372036854775807) (c0 : (B 0).toNat ≠ 69) :
    Calls Try.prog 24 #[hv B, .int .i64 (n : Int)] w fun e w' => e = .returned (.int .i64 (flt B n)) ∧ Below w.heap.size w w' := by
  have b0 : Below w.heap.size w (w.alloc (.cells (hc B) 40)) := (Below.refl _ _).alloc (Nat.le_refl _) _
  have r0 : Hid ((w.alloc (.cells (hc B) 40)).rangeAt w.heap.size 0 (hcl B)) := range_new w (hc B) 40
  have HU := Lib.hid Try.underlying40
  have HI : Hid ((Try.prog.info? 40).map (·.size) = some (hcl B).length) := info40
  have N1 : Hid (∀ (w1 w2 : World), Hid (w1.rangeAt w.heap.size 0 (hcl B)) → Below w1.heap.size w1 w2 → w.heap.size < w1.heap.size → Hid (w2.rangeAt w.heap.size 0 (hcl B))) := fun w1 w2 h hb hg => range_keep h.out hb hg
  have NX : Hid (∀ (w1 : World), Hid (w1.rangeAt w.heap.size 0 (hcl B)) → w1.cell? ⟨w.heap.size, 0, none⟩ = some (.int .u8 ((B 0).toNat : Int)) ∧ w1.cell? ⟨w.heap.size, 1, none⟩ = some (.int .u8 ((B 1).toNat : Int))) := fun w1 h => ⟨h.out 0 _ rfl, h.out 1 _ rfl⟩
  have H2 : Hid (∀ w', Calls Try.prog 32 #[hv B, .int .i64 2] w' fun e w'' => e = .returned (.int .i64 (w16 (B 2) (B 3) : Int)) ∧ Below w'.heap.size w' w'') := fun w' => htwo_any B 2 2 w' (by simp)
  have H6 : Hid (∀ w', Calls Try.prog 32 #[hv B, .int .i64 6] w' fun e w'' => e = .returned (.int .i64 (w16 (B 6) (B 7) : Int)) ∧ Below w'.heap.size w' w'') := fun w' => htwo_any B 6 6 w' (by simp)
  have H10 : Hid (∀ w', Calls Try.prog 32 #[hv B, .int .i64 10] w' fun e w'' => e = .returned (.int .i64 (w16 (B 10) (B 11) : Int)) ∧ Below w'.heap.size w' w'') := fun w' => htwo_any B 10 10 w' (by simp)
  have HK : Hid (∀ w', Calls Try.prog 31 #[hv B] w' fun e w'' => e = .returned (.int .i64 (hs B : Int)) ∧ Below w'.heap.size w' w'') := fun w' => hcheck_any B w'
  have q2 := w16_le (B 2) (B 3)
  have q6 := w16_le (B 6) (B 7)
  have q10 := w16_le (B 10) (B 11)
  have hand := and_bit (w16 (B 6) (B 7)) 15 32768 rfl q6 (by omega)
  rw [show ((32768 : Nat) : Int) = 32768 from rfl] at hand
  have HF : Hid (flt B n = 6) := by show _ = _; unfold flt; rw [if_pos c0]
  generalize flt B n = R at *
  generalize w16 (B 2) (B 3) = T2 at *
  generalize w16 (B 6) (B 7) = T6 at *
  generalize w16 (B 10) (B 11) = T10 at *
  generalize hs B = TS at *
  have d0 : (((B 0).toNat : Int) != 69) = true := by simp; omega
  go_enter Try.func24, Try.ntmps24
  go_wp2_with (refine wpList_load_mid rfl _ _ rfl _ _ rfl (hcl B) _ r0.out HU.out rfl HI.out ?_)
  refine (H2.out _).mono ?_; rintro e w1 ⟨rfl, hb1⟩
  have R1 := N1.out _ _ r0 hb1 (by simp)
  obtain ⟨x0, x1⟩ := NX.out _ R1
  have b1 := b0.trans (hb1.mono (by simp))
  have z1 := hb1.size
  simp at z1
  go_wp2
  go_ret
  exact ⟨ret_int HF.out.symm, b1⟩
set_option maxHeartbeats 2000000 in
theorem fault_2 (B : Nat → UInt8) (n : Nat) (w : World) (hn : (n : Int) ≤ 9223372036854775807) (c0 : (B 0).toNat = 69) (c1 : (B 1).toNat ≠ 0) :
    Calls Try.prog 24 #[hv B, .int .i64 (n : Int)] w fun e w' => e = .returned (.int .i64 (flt B n)) ∧ Below w.heap.size w w' := by
  have b0 : Below w.heap.size w (w.alloc (.cells (hc B) 40)) := (Below.refl _ _).alloc (Nat.le_refl _) _
  have r0 : Hid ((w.alloc (.cells (hc B) 40)).rangeAt w.heap.size 0 (hcl B)) := range_new w (hc B) 40
  have HU := Lib.hid Try.underlying40
  have HI : Hid ((Try.prog.info? 40).map (·.size) = some (hcl B).length) := info40
  have N1 : Hid (∀ (w1 w2 : World), Hid (w1.rangeAt w.heap.size 0 (hcl B)) → Below w1.heap.size w1 w2 → w.heap.size < w1.heap.size → Hid (w2.rangeAt w.heap.size 0 (hcl B))) := fun w1 w2 h hb hg => range_keep h.out hb hg
  have NX : Hid (∀ (w1 : World), Hid (w1.rangeAt w.heap.size 0 (hcl B)) → w1.cell? ⟨w.heap.size, 0, none⟩ = some (.int .u8 ((B 0).toNat : Int)) ∧ w1.cell? ⟨w.heap.size, 1, none⟩ = some (.int .u8 ((B 1).toNat : Int))) := fun w1 h => ⟨h.out 0 _ rfl, h.out 1 _ rfl⟩
  have H2 : Hid (∀ w', Calls Try.prog 32 #[hv B, .int .i64 2] w' fun e w'' => e = .returned (.int .i64 (w16 (B 2) (B 3) : Int)) ∧ Below w'.heap.size w' w'') := fun w' => htwo_any B 2 2 w' (by simp)
  have H6 : Hid (∀ w', Calls Try.prog 32 #[hv B, .int .i64 6] w' fun e w'' => e = .returned (.int .i64 (w16 (B 6) (B 7) : Int)) ∧ Below w'.heap.size w' w'') := fun w' => htwo_any B 6 6 w' (by simp)
  have H10 : Hid (∀ w', Calls Try.prog 32 #[hv B, .int .i64 10] w' fun e w'' => e = .returned (.int .i64 (w16 (B 10) (B 11) : Int)) ∧ Below w'.heap.size w' w'') := fun w' => htwo_any B 10 10 w' (by simp)
  have HK : Hid (∀ w', Calls Try.prog 31 #[hv B] w' fun e w'' => e = .returned (.int .i64 (hs B : Int)) ∧ Below w'.heap.size w' w'') := fun w' => hcheck_any B w'
  have q2 := w16_le (B 2) (B 3)
  have q6 := w16_le (B 6) (B 7)
  have q10 := w16_le (B 10) (B 11)
  have hand := and_bit (w16 (B 6) (B 7)) 15 32768 rfl q6 (by omega)
  rw [show ((32768 : Nat) : Int) = 32768 from rfl] at hand
  have HF : Hid (flt B n = 4) := by show _ = _; unfold flt; rw [if_neg (by omega), if_pos (Or.inl c1)]
  generalize flt B n = R at *
  generalize w16 (B 2) (B 3) = T2 at *
  generalize w16 (B 6) (B 7) = T6 at *
  generalize w16 (B 10) (B 11) = T10 at *
  generalize hs B = TS at *
  have d0 : (((B 0).toNat : Int) != 69) = false := by simp; omega
  clear c0
  have d1 : (((B 1).toNat : Int) != 0) = true := by simp; omega
  go_enter Try.func24, Try.ntmps24
  go_wp2_with (refine wpList_load_mid rfl _ _ rfl _ _ rfl (hcl B) _ r0.out HU.out rfl HI.out ?_)
  refine (H2.out _).mono ?_; rintro e w1 ⟨rfl, hb1⟩
  have R1 := N1.out _ _ r0 hb1 (by simp)
  obtain ⟨x0, x1⟩ := NX.out _ R1
  have b1 := b0.trans (hb1.mono (by simp))
  have z1 := hb1.size
  simp at z1
  go_wp2
  go_ret
  exact ⟨ret_int HF.out.symm, b1⟩
set_option maxHeartbeats 2000000 in
theorem fault_3 (B : Nat → UInt8) (n : Nat) (w : World) (hn : (n : Int) ≤ 9223372036854775807) (c0 : (B 0).toNat = 69) (c1 : (B 1).toNat = 0) (c2 : 32768 ≤ w16 (B 6) (B 7)) :
    Calls Try.prog 24 #[hv B, .int .i64 (n : Int)] w fun e w' => e = .returned (.int .i64 (flt B n)) ∧ Below w.heap.size w w' := by
  have b0 : Below w.heap.size w (w.alloc (.cells (hc B) 40)) := (Below.refl _ _).alloc (Nat.le_refl _) _
  have r0 : Hid ((w.alloc (.cells (hc B) 40)).rangeAt w.heap.size 0 (hcl B)) := range_new w (hc B) 40
  have HU := Lib.hid Try.underlying40
  have HI : Hid ((Try.prog.info? 40).map (·.size) = some (hcl B).length) := info40
  have N1 : Hid (∀ (w1 w2 : World), Hid (w1.rangeAt w.heap.size 0 (hcl B)) → Below w1.heap.size w1 w2 → w.heap.size < w1.heap.size → Hid (w2.rangeAt w.heap.size 0 (hcl B))) := fun w1 w2 h hb hg => range_keep h.out hb hg
  have NX : Hid (∀ (w1 : World), Hid (w1.rangeAt w.heap.size 0 (hcl B)) → w1.cell? ⟨w.heap.size, 0, none⟩ = some (.int .u8 ((B 0).toNat : Int)) ∧ w1.cell? ⟨w.heap.size, 1, none⟩ = some (.int .u8 ((B 1).toNat : Int))) := fun w1 h => ⟨h.out 0 _ rfl, h.out 1 _ rfl⟩
  have H2 : Hid (∀ w', Calls Try.prog 32 #[hv B, .int .i64 2] w' fun e w'' => e = .returned (.int .i64 (w16 (B 2) (B 3) : Int)) ∧ Below w'.heap.size w' w'') := fun w' => htwo_any B 2 2 w' (by simp)
  have H6 : Hid (∀ w', Calls Try.prog 32 #[hv B, .int .i64 6] w' fun e w'' => e = .returned (.int .i64 (w16 (B 6) (B 7) : Int)) ∧ Below w'.heap.size w' w'') := fun w' => htwo_any B 6 6 w' (by simp)
  have H10 : Hid (∀ w', Calls Try.prog 32 #[hv B, .int .i64 10] w' fun e w'' => e = .returned (.int .i64 (w16 (B 10) (B 11) : Int)) ∧ Below w'.heap.size w' w'') := fun w' => htwo_any B 10 10 w' (by simp)
  have HK : Hid (∀ w', Calls Try.prog 31 #[hv B] w' fun e w'' => e = .returned (.int .i64 (hs B : Int)) ∧ Below w'.heap.size w' w'') := fun w' => hcheck_any B w'
  have q2 := w16_le (B 2) (B 3)
  have q6 := w16_le (B 6) (B 7)
  have q10 := w16_le (B 10) (B 11)
  have hand := and_bit (w16 (B 6) (B 7)) 15 32768 rfl q6 (by omega)
  rw [show ((32768 : Nat) : Int) = 32768 from rfl] at hand
  have HF : Hid (flt B n = 4) := by show _ = _; unfold flt; rw [if_neg (by omega), if_pos (Or.inr c2)]
  generalize flt B n = R at *
  generalize w16 (B 2) (B 3) = T2 at *
  generalize w16 (B 6) (B 7) = T6 at *
  generalize w16 (B 10) (B 11) = T10 at *
  generalize hs B = TS at *
  have d0 : (((B 0).toNat : Int) != 69) = false := by simp; omega
  clear c0
  have d1 : (((B 1).toNat : Int) != 0) = false := by simp; omega
  clear c1
  have d2 : (((T6 / 32768 % 2 * 32768 : Nat) : Int) != 0) = true := by simp; omega
  go_enter Try.func24, Try.ntmps24
  go_wp2_with (refine wpList_load_mid rfl _ _ rfl _ _ rfl (hcl B) _ r0.out HU.out rfl HI.out ?_)
  refine (H2.out _).mono ?_; rintro e w1 ⟨rfl, hb1⟩
  have R1 := N1.out _ _ r0 hb1 (by simp)
  obtain ⟨x0, x1⟩ := NX.out _ R1
  have b1 := b0.trans (hb1.mono (by simp))
  have z1 := hb1.size
  simp at z1
  go_wp2_with (refine wpList_load_guard (by rfl) _ _ rfl _ _ rfl (hcl B) _ R1.out HU.out rfl HI.out ?_)
  refine (H6.out _).mono ?_; rintro e w2 ⟨rfl, hb2⟩
  have R2 := N1.out _ _ R1 hb2 (by omega)
  clear x0 x1
  have b2 := b1.trans (hb2.mono (by omega))
  have z2 := hb2.size
  go_wp2
  go_ret
  exact ⟨ret_int HF.out.symm, b2⟩
set_option maxHeartbeats 2000000 in
theorem fault_4 (B : Nat → UInt8) (n : Nat) (w : World) (hn : (n : Int) ≤ 9223372036854775807) (c0 : (B 0).toNat = 69) (c1 : (B 1).toNat = 0) (c2 : ¬ 32768 ≤ w16 (B 6) (B 7)) (c3 : n < w16 (B 2) (B 3)) :
    Calls Try.prog 24 #[hv B, .int .i64 (n : Int)] w fun e w' => e = .returned (.int .i64 (flt B n)) ∧ Below w.heap.size w w' := by
  have b0 : Below w.heap.size w (w.alloc (.cells (hc B) 40)) := (Below.refl _ _).alloc (Nat.le_refl _) _
  have r0 : Hid ((w.alloc (.cells (hc B) 40)).rangeAt w.heap.size 0 (hcl B)) := range_new w (hc B) 40
  have HU := Lib.hid Try.underlying40
  have HI : Hid ((Try.prog.info? 40).map (·.size) = some (hcl B).length) := info40
  have N1 : Hid (∀ (w1 w2 : World), Hid (w1.rangeAt w.heap.size 0 (hcl B)) → Below w1.heap.size w1 w2 → w.heap.size < w1.heap.size → Hid (w2.rangeAt w.heap.size 0 (hcl B))) := fun w1 w2 h hb hg => range_keep h.out hb hg
  have NX : Hid (∀ (w1 : World), Hid (w1.rangeAt w.heap.size 0 (hcl B)) → w1.cell? ⟨w.heap.size, 0, none⟩ = some (.int .u8 ((B 0).toNat : Int)) ∧ w1.cell? ⟨w.heap.size, 1, none⟩ = some (.int .u8 ((B 1).toNat : Int))) := fun w1 h => ⟨h.out 0 _ rfl, h.out 1 _ rfl⟩
  have H2 : Hid (∀ w', Calls Try.prog 32 #[hv B, .int .i64 2] w' fun e w'' => e = .returned (.int .i64 (w16 (B 2) (B 3) : Int)) ∧ Below w'.heap.size w' w'') := fun w' => htwo_any B 2 2 w' (by simp)
  have H6 : Hid (∀ w', Calls Try.prog 32 #[hv B, .int .i64 6] w' fun e w'' => e = .returned (.int .i64 (w16 (B 6) (B 7) : Int)) ∧ Below w'.heap.size w' w'') := fun w' => htwo_any B 6 6 w' (by simp)
  have H10 : Hid (∀ w', Calls Try.prog 32 #[hv B, .int .i64 10] w' fun e w'' => e = .returned (.int .i64 (w16 (B 10) (B 11) : Int)) ∧ Below w'.heap.size w' w'') := fun w' => htwo_any B 10 10 w' (by simp)
  have HK : Hid (∀ w', Calls Try.prog 31 #[hv B] w' fun e w'' => e = .returned (.int .i64 (hs B : Int)) ∧ Below w'.heap.size w' w'') := fun w' => hcheck_any B w'
  have q2 := w16_le (B 2) (B 3)
  have q6 := w16_le (B 6) (B 7)
  have q10 := w16_le (B 10) (B 11)
  have hand := and_bit (w16 (B 6) (B 7)) 15 32768 rfl q6 (by omega)
  rw [show ((32768 : Nat) : Int) = 32768 from rfl] at hand
  have HF : Hid (flt B n = 3) := by show _ = _; unfold flt; rw [if_neg (by omega), if_neg (by omega), if_pos c3]
  generalize flt B n = R at *
  generalize w16 (B 2) (B 3) = T2 at *
  generalize w16 (B 6) (B 7) = T6 at *
  generalize w16 (B 10) (B 11) = T10 at *
  generalize hs B = TS at *
  have d0 : (((B 0).toNat : Int) != 69) = false := by simp; omega
  clear c0
  have d1 : (((B 1).toNat : Int) != 0) = false := by simp; omega
  clear c1
  have d2 : (((T6 / 32768 % 2 * 32768 : Nat) : Int) != 0) = false := by simp; omega
  clear c2
  have d3 : (n : Int) < T2 := by omega
  go_enter Try.func24, Try.ntmps24
  go_wp2_with (refine wpList_load_mid rfl _ _ rfl _ _ rfl (hcl B) _ r0.out HU.out rfl HI.out ?_)
  refine (H2.out _).mono ?_; rintro e w1 ⟨rfl, hb1⟩
  have R1 := N1.out _ _ r0 hb1 (by simp)
  obtain ⟨x0, x1⟩ := NX.out _ R1
  have b1 := b0.trans (hb1.mono (by simp))
  have z1 := hb1.size
  simp at z1
  go_wp2_with (refine wpList_load_guard (by rfl) _ _ rfl _ _ rfl (hcl B) _ R1.out HU.out rfl HI.out ?_)
  refine (H6.out _).mono ?_; rintro e w2 ⟨rfl, hb2⟩
  have R2 := N1.out _ _ R1 hb2 (by omega)
  clear x0 x1
  have b2 := b1.trans (hb2.mono (by omega))
  have z2 := hb2.size
  go_wp2
  go_ret
  exact ⟨ret_int HF.out.symm, b2⟩
set_option maxHeartbeats 2000000 in
theorem fault_5 (B : Nat → UInt8) (n : Nat) (w : World) (hn : (n : Int) ≤ 9223372036854775807) (c0 : (B 0).toNat = 69) (c1 : (B 1).toNat = 0) (c2 : ¬ 32768 ≤ w16 (B 6) (B 7)) (c3 : ¬ n < w16 (B 2) (B 3)) (c4 : w16 (B 2) (B 3) < n) :
    Calls Try.prog 24 #[hv B, .int .i64 (n : Int)] w fun e w' => e = .returned (.int .i64 (flt B n)) ∧ Below w.heap.size w w' := by
  have b0 : Below w.heap.size w (w.alloc (.cells (hc B) 40)) := (Below.refl _ _).alloc (Nat.le_refl _) _
  have r0 : Hid ((w.alloc (.cells (hc B) 40)).rangeAt w.heap.size 0 (hcl B)) := range_new w (hc B) 40
  have HU := Lib.hid Try.underlying40
  have HI : Hid ((Try.prog.info? 40).map (·.size) = some (hcl B).length) := info40
  have N1 : Hid (∀ (w1 w2 : World), Hid (w1.rangeAt w.heap.size 0 (hcl B)) → Below w1.heap.size w1 w2 → w.heap.size < w1.heap.size → Hid (w2.rangeAt w.heap.size 0 (hcl B))) := fun w1 w2 h hb hg => range_keep h.out hb hg
  have NX : Hid (∀ (w1 : World), Hid (w1.rangeAt w.heap.size 0 (hcl B)) → w1.cell? ⟨w.heap.size, 0, none⟩ = some (.int .u8 ((B 0).toNat : Int)) ∧ w1.cell? ⟨w.heap.size, 1, none⟩ = some (.int .u8 ((B 1).toNat : Int))) := fun w1 h => ⟨h.out 0 _ rfl, h.out 1 _ rfl⟩
  have H2 : Hid (∀ w', Calls Try.prog 32 #[hv B, .int .i64 2] w' fun e w'' => e = .returned (.int .i64 (w16 (B 2) (B 3) : Int)) ∧ Below w'.heap.size w' w'') := fun w' => htwo_any B 2 2 w' (by simp)
  have H6 : Hid (∀ w', Calls Try.prog 32 #[hv B, .int .i64 6] w' fun e w'' => e = .returned (.int .i64 (w16 (B 6) (B 7) : Int)) ∧ Below w'.heap.size w' w'') := fun w' => htwo_any B 6 6 w' (by simp)
  have H10 : Hid (∀ w', Calls Try.prog 32 #[hv B, .int .i64 10] w' fun e w'' => e = .returned (.int .i64 (w16 (B 10) (B 11) : Int)) ∧ Below w'.heap.size w' w'') := fun w' => htwo_any B 10 10 w' (by simp)
  have HK : Hid (∀ w', Calls Try.prog 31 #[hv B] w' fun e w'' => e = .returned (.int .i64 (hs B : Int)) ∧ Below w'.heap.size w' w'') := fun w' => hcheck_any B w'
  have q2 := w16_le (B 2) (B 3)
  have q6 := w16_le (B 6) (B 7)
  have q10 := w16_le (B 10) (B 11)
  have hand := and_bit (w16 (B 6) (B 7)) 15 32768 rfl q6 (by omega)
  rw [show ((32768 : Nat) : Int) = 32768 from rfl] at hand
  have HF : Hid (flt B n = 4) := by show _ = _; unfold flt; rw [if_neg (by omega), if_neg (by omega), if_neg c3, if_pos c4]
  generalize flt B n = R at *
  generalize w16 (B 2) (B 3) = T2 at *
  generalize w16 (B 6) (B 7) = T6 at *
  generalize w16 (B 10) (B 11) = T10 at *
  generalize hs B = TS at *
  have d0 : (((B 0).toNat : Int) != 69) = false := by simp; omega
  clear c0
  have d1 : (((B 1).toNat : Int) != 0) = false := by simp; omega
  clear c1
  have d2 : (((T6 / 32768 % 2 * 32768 : Nat) : Int) != 0) = false := by simp; omega
  clear c2
  have d3 : ¬ (n : Int) < T2 := by omega
  clear c3
  have d4 : (T2 : Int) < n := by omega
  go_enter Try.func24, Try.ntmps24
  go_wp2_with (refine wpList_load_mid rfl _ _ rfl _ _ rfl (hcl B) _ r0.out HU.out rfl HI.out ?_)
  refine (H2.out _).mono ?_; rintro e w1 ⟨rfl, hb1⟩
  have R1 := N1.out _ _ r0 hb1 (by simp)
  obtain ⟨x0, x1⟩ := NX.out _ R1
  have b1 := b0.trans (hb1.mono (by simp))
  have z1 := hb1.size
  simp at z1
  go_wp2_with (refine wpList_load_guard (by rfl) _ _ rfl _ _ rfl (hcl B) _ R1.out HU.out rfl HI.out ?_)
  refine (H6.out _).mono ?_; rintro e w2 ⟨rfl, hb2⟩
  have R2 := N1.out _ _ R1 hb2 (by omega)
  clear x0 x1
  have b2 := b1.trans (hb2.mono (by omega))
  have z2 := hb2.size
  go_wp2
  go_ret
  exact ⟨ret_int HF.out.symm, b2⟩
set_option maxHeartbeats 2000000 in
theorem fault_6 (B : Nat → UInt8) (n : Nat) (w : World) (hn : (n : Int) ≤ 9223372036854775807) (c0 : (B 0).toNat = 69) (c1 : (B 1).toNat = 0) (c2 : ¬ 32768 ≤ w16 (B 6) (B 7)) (c3 : ¬ n < w16 (B 2) (B 3)) (c4 : ¬ w16 (B 2) (B 3) < n) (c5 : w16 (B 10) (B 11) ≠ hs B) :
    Calls Try.prog 24 #[hv B, .int .i64 (n : Int)] w fun e w' => e = .returned (.int .i64 (flt B n)) ∧ Below w.heap.size w w' := by
  have b0 : Below w.heap.size w (w.alloc (.cells (hc B) 40)) := (Below.refl _ _).alloc (Nat.le_refl _) _
  have r0 : Hid ((w.alloc (.cells (hc B) 40)).rangeAt w.heap.size 0 (hcl B)) := range_new w (hc B) 40
  have HU := Lib.hid Try.underlying40
  have HI : Hid ((Try.prog.info? 40).map (·.size) = some (hcl B).length) := info40
  have N1 : Hid (∀ (w1 w2 : World), Hid (w1.rangeAt w.heap.size 0 (hcl B)) → Below w1.heap.size w1 w2 → w.heap.size < w1.heap.size → Hid (w2.rangeAt w.heap.size 0 (hcl B))) := fun w1 w2 h hb hg => range_keep h.out hb hg
  have NX : Hid (∀ (w1 : World), Hid (w1.rangeAt w.heap.size 0 (hcl B)) → w1.cell? ⟨w.heap.size, 0, none⟩ = some (.int .u8 ((B 0).toNat : Int)) ∧ w1.cell? ⟨w.heap.size, 1, none⟩ = some (.int .u8 ((B 1).toNat : Int))) := fun w1 h => ⟨h.out 0 _ rfl, h.out 1 _ rfl⟩
  have H2 : Hid (∀ w', Calls Try.prog 32 #[hv B, .int .i64 2] w' fun e w'' => e = .returned (.int .i64 (w16 (B 2) (B 3) : Int)) ∧ Below w'.heap.size w' w'') := fun w' => htwo_any B 2 2 w' (by simp)
  have H6 : Hid (∀ w', Calls Try.prog 32 #[hv B, .int .i64 6] w' fun e w'' => e = .returned (.int .i64 (w16 (B 6) (B 7) : Int)) ∧ Below w'.heap.size w' w'') := fun w' => htwo_any B 6 6 w' (by simp)
  have H10 : Hid (∀ w', Calls Try.prog 32 #[hv B, .int .i64 10] w' fun e w'' => e = .returned (.int .i64 (w16 (B 10) (B 11) : Int)) ∧ Below w'.heap.size w' w'') := fun w' => htwo_any B 10 10 w' (by simp)
  have HK : Hid (∀ w', Calls Try.prog 31 #[hv B] w' fun e w'' => e = .returned (.int .i64 (hs B : Int)) ∧ Below w'.heap.size w' w'') := fun w' => hcheck_any B w'
  have q2 := w16_le (B 2) (B 3)
  have q6 := w16_le (B 6) (B 7)
  have q10 := w16_le (B 10) (B 11)
  have hand := and_bit (w16 (B 6) (B 7)) 15 32768 rfl q6 (by omega)
  rw [show ((32768 : Nat) : Int) = 32768 from rfl] at hand
  have HF : Hid (flt B n = 5) := by show _ = _; unfold flt; rw [if_neg (by omega), if_neg (by omega), if_neg c3, if_neg c4, if_pos c5]
  generalize flt B n = R at *
  generalize w16 (B 2) (B 3) = T2 at *
  generalize w16 (B 6) (B 7) = T6 at *
  generalize w16 (B 10) (B 11) = T10 at *
  generalize hs B = TS at *
  have d0 : (((B 0).toNat : Int) != 69) = false := by simp; omega
  clear c0
  have d1 : (((B 1).toNat : Int) != 0) = false := by simp; omega
  clear c1
  have d2 : (((T6 / 32768 % 2 * 32768 : Nat) : Int) != 0) = false := by simp; omega
  clear c2
  have d3 : ¬ (n : Int) < T2 := by omega
  clear c3
  have d4 : ¬ (T2 : Int) < n := by omega
  clear c4
  have d5 : ((T10 : Int) != (TS : Int)) = true := by simp; omega
  go_enter Try.func24, Try.ntmps24
  go_wp2_with (refine wpList_load_mid rfl _ _ rfl _ _ rfl (hcl B) _ r0.out HU.out rfl HI.out ?_)
  refine (H2.out _).mono ?_; rintro e w1 ⟨rfl, hb1⟩
  have R1 := N1.out _ _ r0 hb1 (by simp)
  obtain ⟨x0, x1⟩ := NX.out _ R1
  have b1 := b0.trans (hb1.mono (by simp))
  have z1 := hb1.size
  simp at z1
  go_wp2_with (refine wpList_load_guard (by rfl) _ _ rfl _ _ rfl (hcl B) _ R1.out HU.out rfl HI.out ?_)
  refine (H6.out _).mono ?_; rintro e w2 ⟨rfl, hb2⟩
  have R2 := N1.out _ _ R1 hb2 (by omega)
  clear x0 x1
  have b2 := b1.trans (hb2.mono (by omega))
  have z2 := hb2.size
  go_wp2
  refine wp_region_held_drew (S := fun w' => Hid (w'.rangeAt w.heap.size 0 (hcl B))) (by kernel_rfl) (Lib.hid R2.out) (fun hHeld => ?_)
  refine takeH (i := 0) (d := some 31) rfl rfl (by kernel_rfl) (by kernel_rfl) (by kernel_rfl) (fun _ _ _ h => h) (yieldsIf_load_mid (by rfl) _ _ rfl _ _ rfl (hcl B) _ (fun w' hSw => hSw.out) HU.out rfl HI.out) hHeld ?_
  simp only [Act.put, List.setIfInBounds_toArray, List.set_cons_zero, List.set_cons_succ]
  refine takeH (i := 2) (d := some 33) rfl rfl (by kernel_rfl) (by kernel_rfl) (by kernel_rfl) (fun _ _ _ h => h) (yieldsIf_load_mid (by rfl) _ _ rfl _ _ rfl (hcl B) _ (fun w' hSw => hSw.out) HU.out rfl HI.out) hHeld ?_
  simp only [Act.put, List.setIfInBounds_toArray, List.set_cons_zero, List.set_cons_succ]
  refine wpAnyH_ready (rs := [1]) (by kernel_rfl) (by simp) ?_
  refine AllReadyH.cons rfl (fun K hK => ?_) AllReadyH.nil
  go_simp
  refine (H10.out _).mono ?_; rintro e w3 ⟨rfl, hb3⟩
  have R3 := N1.out _ _ hHeld hb3 (by show w.heap.size < w2.heap.size; omega)
  have b3 := b2.drew.trans (hb3.mono (by show w.heap.size ≤ w2.heap.size; omega))
  have z3 := hb3.size
  clear hHeld
  refine hK.out _ _ R3 (fun hHeld => ?_)
  clear hK K
  try simp only [Act.put, List.setIfInBounds_toArray, List.set_cons_zero, List.set_cons_succ]
  refine wpAnyH_ready (rs := [3]) (by kernel_rfl) (by simp) ?_
  refine AllReadyH.cons rfl (fun K hK => ?_) AllReadyH.nil
  go_simp
  refine (HK.out _).mono ?_; rintro e w4 ⟨rfl, hb4⟩
  have R4 := N1.out _ _ hHeld hb4 (by have : w2.heap.size ≤ w3.heap.size := z3; omega)
  have b4 := b3.trans (hb4.mono (by have : w2.heap.size ≤ w3.heap.size := z3; omega))
  clear hHeld
  refine hK.out _ _ R4 (fun hHeld => ?_)
  clear hK K
  try simp only [Act.put, List.setIfInBounds_toArray, List.set_cons_zero, List.set_cons_succ]
  refine takeH (i := 4) (d := some 35) (v := ?_) rfl rfl (by kernel_rfl) (by kernel_rfl) (by kernel_rfl) (fun _ _ _ h => h) (Or.inl ⟨by rfl, ?_⟩) hHeld ?_
  rotate_left
  · intro w' hSw; (try dsimp only at hSw); go_simp; try with_reducible rfl
  simp only [Act.put, List.setIfInBounds_toArray, List.set_cons_zero, List.set_cons_succ]
  refine takeH (i := 5) (d := some 30) (v := ?_) rfl rfl (by kernel_rfl) (by kernel_rfl) (by kernel_rfl) (fun _ _ _ h => h) (Or.inl ⟨by rfl, ?_⟩) hHeld ?_
  rotate_left
  · intro w' hSw; (try dsimp only at hSw); go_simp; try with_reducible rfl
  simp only [Act.put, List.setIfInBounds_toArray, List.set_cons_zero, List.set_cons_succ]
  refine wpAnyH_done (by kernel_rfl) ?_ _
  go_wp2
  go_ret
  exact ⟨ret_int HF.out.symm, b4⟩
set_option maxHeartbeats 2000000 in
theorem fault_7 (B : Nat → UInt8) (n : Nat) (w : World) (hn : (n : Int) ≤ 9223372036854775807) (c0 : (B 0).toNat = 69) (c1 : (B 1).toNat = 0) (c2 : ¬ 32768 ≤ w16 (B 6) (B 7)) (c3 : ¬ n < w16 (B 2) (B 3)) (c4 : ¬ w16 (B 2) (B 3) < n) (c5 : w16 (B 10) (B 11) = hs B) :
    Calls Try.prog 24 #[hv B, .int .i64 (n : Int)] w fun e w' => e = .returned (.int .i64 (flt B n)) ∧ Below w.heap.size w w' := by
  have b0 : Below w.heap.size w (w.alloc (.cells (hc B) 40)) := (Below.refl _ _).alloc (Nat.le_refl _) _
  have r0 : Hid ((w.alloc (.cells (hc B) 40)).rangeAt w.heap.size 0 (hcl B)) := range_new w (hc B) 40
  have HU := Lib.hid Try.underlying40
  have HI : Hid ((Try.prog.info? 40).map (·.size) = some (hcl B).length) := info40
  have N1 : Hid (∀ (w1 w2 : World), Hid (w1.rangeAt w.heap.size 0 (hcl B)) → Below w1.heap.size w1 w2 → w.heap.size < w1.heap.size → Hid (w2.rangeAt w.heap.size 0 (hcl B))) := fun w1 w2 h hb hg => range_keep h.out hb hg
  have NX : Hid (∀ (w1 : World), Hid (w1.rangeAt w.heap.size 0 (hcl B)) → w1.cell? ⟨w.heap.size, 0, none⟩ = some (.int .u8 ((B 0).toNat : Int)) ∧ w1.cell? ⟨w.heap.size, 1, none⟩ = some (.int .u8 ((B 1).toNat : Int))) := fun w1 h => ⟨h.out 0 _ rfl, h.out 1 _ rfl⟩
  have H2 : Hid (∀ w', Calls Try.prog 32 #[hv B, .int .i64 2] w' fun e w'' => e = .returned (.int .i64 (w16 (B 2) (B 3) : Int)) ∧ Below w'.heap.size w' w'') := fun w' => htwo_any B 2 2 w' (by simp)
  have H6 : Hid (∀ w', Calls Try.prog 32 #[hv B, .int .i64 6] w' fun e w'' => e = .returned (.int .i64 (w16 (B 6) (B 7) : Int)) ∧ Below w'.heap.size w' w'') := fun w' => htwo_any B 6 6 w' (by simp)
  have H10 : Hid (∀ w', Calls Try.prog 32 #[hv B, .int .i64 10] w' fun e w'' => e = .returned (.int .i64 (w16 (B 10) (B 11) : Int)) ∧ Below w'.heap.size w' w'') := fun w' => htwo_any B 10 10 w' (by simp)
  have HK : Hid (∀ w', Calls Try.prog 31 #[hv B] w' fun e w'' => e = .returned (.int .i64 (hs B : Int)) ∧ Below w'.heap.size w' w'') := fun w' => hcheck_any B w'
  have q2 := w16_le (B 2) (B 3)
  have q6 := w16_le (B 6) (B 7)
  have q10 := w16_le (B 10) (B 11)
  have hand := and_bit (w16 (B 6) (B 7)) 15 32768 rfl q6 (by omega)
  rw [show ((32768 : Nat) : Int) = 32768 from rfl] at hand
  have HF : Hid (flt B n = 0) := by show _ = _; unfold flt; rw [if_neg (by omega), if_neg (by omega), if_neg c3, if_neg c4, if_neg (by omega)]
  generalize flt B n = R at *
  generalize w16 (B 2) (B 3) = T2 at *
  generalize w16 (B 6) (B 7) = T6 at *
  generalize w16 (B 10) (B 11) = T10 at *
  generalize hs B = TS at *
  have d0 : (((B 0).toNat : Int) != 69) = false := by simp; omega
  clear c0
  have d1 : (((B 1).toNat : Int) != 0) = false := by simp; omega
  clear c1
  have d2 : (((T6 / 32768 % 2 * 32768 : Nat) : Int) != 0) = false := by simp; omega
  clear c2
  have d3 : ¬ (n : Int) < T2 := by omega
  clear c3
  have d4 : ¬ (T2 : Int) < n := by omega
  clear c4
  have d5 : ((T10 : Int) != (TS : Int)) = false := by simp; omega
  clear c5
  go_enter Try.func24, Try.ntmps24
  go_wp2_with (refine wpList_load_mid rfl _ _ rfl _ _ rfl (hcl B) _ r0.out HU.out rfl HI.out ?_)
  refine (H2.out _).mono ?_; rintro e w1 ⟨rfl, hb1⟩
  have R1 := N1.out _ _ r0 hb1 (by simp)
  obtain ⟨x0, x1⟩ := NX.out _ R1
  have b1 := b0.trans (hb1.mono (by simp))
  have z1 := hb1.size
  simp at z1
  go_wp2_with (refine wpList_load_guard (by rfl) _ _ rfl _ _ rfl (hcl B) _ R1.out HU.out rfl HI.out ?_)
  refine (H6.out _).mono ?_; rintro e w2 ⟨rfl, hb2⟩
  have R2 := N1.out _ _ R1 hb2 (by omega)
  clear x0 x1
  have b2 := b1.trans (hb2.mono (by omega))
  have z2 := hb2.size
  go_wp2
  refine wp_region_held_drew (S := fun w' => Hid (w'.rangeAt w.heap.size 0 (hcl B))) (by kernel_rfl) (Lib.hid R2.out) (fun hHeld => ?_)
  refine takeH (i := 0) (d := some 31) rfl rfl (by kernel_rfl) (by kernel_rfl) (by kernel_rfl) (fun _ _ _ h => h) (yieldsIf_load_mid (by rfl) _ _ rfl _ _ rfl (hcl B) _ (fun w' hSw => hSw.out) HU.out rfl HI.out) hHeld ?_
  simp only [Act.put, List.setIfInBounds_toArray, List.set_cons_zero, List.set_cons_succ]
  refine takeH (i := 2) (d := some 33) rfl rfl (by kernel_rfl) (by kernel_rfl) (by kernel_rfl) (fun _ _ _ h => h) (yieldsIf_load_mid (by rfl) _ _ rfl _ _ rfl (hcl B) _ (fun w' hSw => hSw.out) HU.out rfl HI.out) hHeld ?_
  simp only [Act.put, List.setIfInBounds_toArray, List.set_cons_zero, List.set_cons_succ]
  refine wpAnyH_ready (rs := [1]) (by kernel_rfl) (by simp) ?_
  refine AllReadyH.cons rfl (fun K hK => ?_) AllReadyH.nil
  go_simp
  refine (H10.out _).mono ?_; rintro e w3 ⟨rfl, hb3⟩
  have R3 := N1.out _ _ hHeld hb3 (by show w.heap.size < w2.heap.size; omega)
  have b3 := b2.drew.trans (hb3.mono (by show w.heap.size ≤ w2.heap.size; omega))
  have z3 := hb3.size
  clear hHeld
  refine hK.out _ _ R3 (fun hHeld => ?_)
  clear hK K
  try simp only [Act.put, List.setIfInBounds_toArray, List.set_cons_zero, List.set_cons_succ]
  refine wpAnyH_ready (rs := [3]) (by kernel_rfl) (by simp) ?_
  refine AllReadyH.cons rfl (fun K hK => ?_) AllReadyH.nil
  go_simp
  refine (HK.out _).mono ?_; rintro e w4 ⟨rfl, hb4⟩
  have R4 := N1.out _ _ hHeld hb4 (by have : w2.heap.size ≤ w3.heap.size := z3; omega)
  have b4 := b3.trans (hb4.mono (by have : w2.heap.size ≤ w3.heap.size := z3; omega))
  clear hHeld
  refine hK.out _ _ R4 (fun hHeld => ?_)
  clear hK K
  try simp only [Act.put, List.setIfInBounds_toArray, List.set_cons_zero, List.set_cons_succ]
  refine takeH (i := 4) (d := some 35) (v := ?_) rfl rfl (by kernel_rfl) (by kernel_rfl) (by kernel_rfl) (fun _ _ _ h => h) (Or.inl ⟨by rfl, ?_⟩) hHeld ?_
  rotate_left
  · intro w' hSw; (try dsimp only at hSw); go_simp; try with_reducible rfl
  simp only [Act.put, List.setIfInBounds_toArray, List.set_cons_zero, List.set_cons_succ]
  refine takeH (i := 5) (d := some 30) (v := ?_) rfl rfl (by kernel_rfl) (by kernel_rfl) (by kernel_rfl) (fun _ _ _ h => h) (Or.inl ⟨by rfl, ?_⟩) hHeld ?_
  rotate_left
  · intro w' hSw; (try dsimp only at hSw); go_simp; try with_reducible rfl
  simp only [Act.put, List.setIfInBounds_toArray, List.set_cons_zero, List.set_cons_succ]
  refine wpAnyH_done (by kernel_rfl) ?_ _
  go_wp2
  go_ret
  exact ⟨ret_int HF.out.symm, b4⟩
theorem fault_any (B : Nat → UInt8) (n : Nat) (w : World) (hn : (n : Int) ≤ 9223372036854775807) :
    Calls Try.prog 24 #[hv B, .int .i64 (n : Int)] w fun e w' => e = .returned (.int .i64 (flt B n)) ∧ Below w.heap.size w w' := by
  by_cases c0 : (B 0).toNat = 69
  · by_cases c1 : (B 1).toNat = 0
    · by_cases c2 : 32768 ≤ w16 (B 6) (B 7)
      · exact fault_3 B n w hn c0 c1 c2
      · by_cases c3 : n < w16 (B 2) (B 3)
        · exact fault_4 B n w hn c0 c1 c2 c3
        · by_cases c4 : w16 (B 2) (B 3) < n
          · exact fault_5 B n w hn c0 c1 c2 c3 c4
          · by_cases c5 : w16 (B 10) (B 11) = hs B
            · exact fault_7 B n w hn c0 c1 c2 c3 c4 c5
            · exact fault_6 B n w hn c0 c1 c2 c3 c4 c5
    · exact fault_2 B n w hn c0 c1
  · exact fault_1 B n w hn c0
end Go.Proofs.Ytlkodoiiigndoaa
