/-
  Contracts of twoAt and fault (package udp).
-/
import Derived.Test.YtaijmccdlffjhaaWr
namespace Go.Proofs.Ytaijmccdlffjhaa
open Go.RowKit
set_option linter.unusedVariables false
set_option linter.unusedSimpArgs false

/-- A byte of a text. -/
def bt (s : ByteArray) (k : Nat) : UInt8 := s.data.toList.getD k 0
/-- The number that two bytes of a text stand for. -/
def tw (s : ByteArray) (k : Nat) : Nat := w16 (bt s k) (bt s (k + 1))
theorem tw_le (s : ByteArray) (k : Nat) : tw s k ≤ 65535 := w16_le _ _
theorem bt_get (s : ByteArray) (k : Nat) (h : k < s.size) : bt s k = s[k] := by
  have h2 : k < s.data.toList.length := by simpa using h
  unfold bt
  rw [List.getD_eq_getElem?_getD, List.getElem?_eq_getElem h2]
  rfl
theorem ix_run (s : ByteArray) (q : Int) (k : Nat) (hq : q = k) (h : k < s.size) (w' : World) : (Instr.index 9 (.string s) (.int .i64 q)).run Try.prog w' = .ok (.int .u8 ((bt s k).toNat : Int)) w' := by
  subst hq
  have := run_index_string (P := Try.prog) w' 9 s .i64 (k : Int) Try.underlying9
  rw [dif_pos (by omega)] at this
  rw [bt_get s k h]
  simpa using this

theorem twoAt_any (s : ByteArray) (q : Int) (k : Nat) (w : World) (hq : q = k) (h : k + 1 < s.size) (hs : s.size ≤ 281474976710656) :
    Calls Try.prog 21 #[.string s, .int .i64 q] w fun e w' => e = .returned (.int .i64 (tw s k : Int)) ∧ Below w.heap.size w w' := by
  have h1 : (bt s k).toNat < 256 := (bt s k).toNat_lt
  have h2 : (bt s (k + 1)).toNat < 256 := (bt s (k + 1)).toNat_lt
  have ho := or_bytes (bt s k).toNat (bt s (k + 1)).toNat h1 h2
  have HR : Hid ((tw s k : Int) = ((bt s k).toNat : Int) * 256 + ((bt s (k + 1)).toNat : Int)) := by show _ = _; unfold tw w16; omega
  have i1 : ∀ w', (Instr.index 9 (.string s) (.int .i64 q)).run Try.prog w' = .ok (.int .u8 ((bt s k).toNat : Int)) w' := fun w' => ix_run s q k hq (by omega) w'
  have i2 : ∀ w', (Instr.index 9 (.string s) (.int .i64 (q + 1))).run Try.prog w' = .ok (.int .u8 ((bt s (k + 1)).toNat : Int)) w' := fun w' => ix_run s (q + 1) (k + 1) (by omega) (by omega) w'
  have v1 : IntKind.i64.wrap (q + 1) = q + 1 := by rw [IntKind.wrap_i64]; omega
  generalize tw s k = R at *
  generalize (bt s k).toNat = A at *
  generalize (bt s (k + 1)).toNat = B at *
  have q1 : -1 ≤ q := by omega
  have q2 : q ≤ 281474976710656 := by omega
  clear hq
  go_enter Try.func21, Try.ntmps21
  go_wp2
  go_quiet (fail)
  go_wp2
  go_ret
  exact ⟨ret_int HR.out.symm, below_drewN (Below.refl _ _) _⟩

/-- What is wrong with a text, whatever stands in its fields. -/
def flt (src dst : Nat) (s : ByteArray) : Int :=
  if s.size < 8 then 3 else if s.size < tw s 4 then 3 else if tw s 4 < s.size ∨ tw s 6 = 0 then 4 else if tw s 6 = cs src dst (s.extract 0 6) (s.extract 8 s.size) then 0 else 5

theorem flt_short (src dst : Nat) (s : ByteArray) (w : World) (h : s.size < 8) :
    Calls Try.prog 20 #[.int .u32 (src : Int), .int .u32 (dst : Int), .string s] w fun e w' => e = .returned (.int .i64 3) ∧ Below w.heap.size w w' := by
  have hlt : (s.size : Int) < 8 := by omega
  go_enter Try.func20, Try.ntmps20
  go_wp2
  go_ret
  exact ⟨rfl, Below.refl _ _⟩

set_option maxHeartbeats 2000000 in
theorem flt_long (src dst : Nat) (s : ByteArray) (w : World) (h1 : src < 4294967296) (h2 : dst < 4294967296) (h : 8 ≤ s.size) (hs : s.size ≤ 281474976710656) :
    Calls Try.prog 20 #[.int .u32 (src : Int), .int .u32 (dst : Int), .string s] w fun e w' => e = .returned (.int .i64 (flt src dst s)) ∧ Below w.heap.size w w' := by
  have hge : ¬ (s.size : Int) < 8 := by omega
  have HT : Hid (∀ w', Calls Try.prog 21 #[.string s, .int .i64 4] w' fun e w'' => e = .returned (.int .i64 (tw s 4 : Int)) ∧ Below w'.heap.size w' w'') := fun w' => twoAt_any s 4 4 w' rfl (by omega) hs
  have HS : Hid (∀ w', Calls Try.prog 21 #[.string s, .int .i64 6] w' fun e w'' => e = .returned (.int .i64 (tw s 6 : Int)) ∧ Below w'.heap.size w' w'') := fun w' => twoAt_any s 6 6 w' rfl (by omega) hs
  have HF : Hid (flt src dst s = if s.size < tw s 4 then 3 else if tw s 4 < s.size ∨ tw s 6 = 0 then 4 else if tw s 6 = cs src dst (s.extract 0 6) (s.extract 8 s.size) then 0 else 5) := by
    show _ = _
    unfold flt; rw [if_neg (by omega)]
  have hk4 := tw_le s 4
  have hk6 := tw_le s 6
  have s1 : ∀ w', (Instr.slice 9 (.string s) none (some (.int .i64 6)) none).run Try.prog w' = .ok (.string (s.extract 0 6)) w' := fun w' => by
    have := run_slice_string_h (P := Try.prog) w' 9 s Try.underlying9 .i64 6 (by omega) (by omega)
    simpa using this
  have s2 : ∀ w', (Instr.slice 9 (.string s) (some (.int .i64 8)) none none).run Try.prog w' = .ok (.string (s.extract 8 s.size)) w' := fun w' => by
    have := run_slice_string_l (P := Try.prog) w' 9 s Try.underlying9 .i64 8 (by omega) (by omega)
    simpa using this
  have HK : Hid (s.size ≤ 65535 → ∀ w', Calls Try.prog 16 #[.int .u32 (src : Int), .int .u32 (dst : Int), .string (s.extract 0 6), .string (s.extract 8 s.size)] w' fun e w'' => e = .returned (.int .i64 (cs src dst (s.extract 0 6) (s.extract 8 s.size) : Int)) ∧ Below w'.heap.size w' w'') := fun hz w' => checkSum_any _ _ _ _ w' h1 h2 (by simp; omega) (by simp; omega)
  generalize flt src dst s = R at *
  generalize cs src dst (s.extract 0 6) (s.extract 8 s.size) = C at *
  generalize s.extract 0 6 = X at *
  generalize s.extract 8 s.size = Y at *
  generalize tw s 4 = T at *
  generalize tw s 6 = U at *
  by_cases c1 : s.size < T
  · go_enter Try.func20, Try.ntmps20
    go_wp2_with fail
    refine (HT.out _).mono ?_; rintro e w1 ⟨rfl, hb1⟩
    go_wp2_with fail
    refine (HS.out _).mono ?_; rintro e w2 ⟨rfl, hb2⟩
    have b2 := hb1.trans (hb2.mono hb1.size)
    have d1 : (s.size : Int) < T := by omega
    go_wp2
    go_ret
    exact ⟨ret_int (by rw [HF.out, if_pos c1]), b2⟩
  have n1 : ¬ (s.size : Int) < T := by omega
  by_cases c2 : T < s.size
  · have d2 : (T : Int) < (s.size : Int) := by omega
    go_enter Try.func20, Try.ntmps20
    go_wp2_with fail
    refine (HT.out _).mono ?_; rintro e w1 ⟨rfl, hb1⟩
    go_wp2_with fail
    refine (HS.out _).mono ?_; rintro e w2 ⟨rfl, hb2⟩
    have b2 := hb1.trans (hb2.mono hb1.size)
    go_wp2
    go_ret
    exact ⟨ret_int (by rw [HF.out, if_neg c1, if_pos (Or.inl c2)]), b2⟩
  have n2 : ¬ (T : Int) < (s.size : Int) := by omega
  by_cases c3 : U = 0
  · have d3 : ((U : Int) == 0) = true := by simp; omega
    go_enter Try.func20, Try.ntmps20
    go_wp2_with fail
    refine (HT.out _).mono ?_; rintro e w1 ⟨rfl, hb1⟩
    go_wp2_with fail
    refine (HS.out _).mono ?_; rintro e w2 ⟨rfl, hb2⟩
    have b2 := hb1.trans (hb2.mono hb1.size)
    go_wp2
    go_ret
    exact ⟨ret_int (by rw [HF.out, if_neg c1, if_pos (Or.inr c3)]), b2⟩
  have d3 : ((U : Int) == 0) = false := by simp; omega
  replace HK := Lib.hid (HK.out (by omega))
  by_cases c4 : U = C
  · have d4 : ((U : Int) != (C : Int)) = false := by simp; omega
    go_enter Try.func20, Try.ntmps20
    go_wp2_with fail
    refine (HT.out _).mono ?_; rintro e w1 ⟨rfl, hb1⟩
    go_wp2_with fail
    refine (HS.out _).mono ?_; rintro e w2 ⟨rfl, hb2⟩
    have b2 := hb1.trans (hb2.mono hb1.size)
    have HZ : Hid (U = C) := c4
    clear c4
    go_wp2_with fail
    refine wp_region_any (by kernel_rfl) ?_
    change wpAny _ _ _ _ _ _ _ (World.drew _)
    refine takeA (i := 0) (d := some 31) (v := ?_) rfl rfl (by kernel_rfl) (by kernel_rfl) (by kernel_rfl) (fun _ _ _ h => h) (Or.inl ⟨by rfl, ?_⟩) ?_
    rotate_left
    · intro w'; go_simp; try with_reducible rfl
    simp only [Act.put, List.setIfInBounds_toArray, List.set_cons_zero, List.set_cons_succ]
    refine takeA (i := 1) (d := some 32) (v := ?_) rfl rfl (by kernel_rfl) (by kernel_rfl) (by kernel_rfl) (fun _ _ _ h => h) (Or.inl ⟨by rfl, ?_⟩) ?_
    rotate_left
    · intro w'; go_simp; try with_reducible rfl
    simp only [Act.put, List.setIfInBounds_toArray, List.set_cons_zero, List.set_cons_succ]
    refine takeA (i := 2) (d := some 33) (v := ?_) rfl rfl (by kernel_rfl) (by kernel_rfl) (by kernel_rfl) (fun _ _ _ h => h) (Or.inl ⟨by rfl, ?_⟩) ?_
    rotate_left
    · intro w'; go_simp; try with_reducible rfl
    simp only [Act.put, List.setIfInBounds_toArray, List.set_cons_zero, List.set_cons_succ]
    refine takeA (i := 3) (d := some 34) (v := ?_) rfl rfl (by kernel_rfl) (by kernel_rfl) (by kernel_rfl) (fun _ _ _ h => h) (Or.inl ⟨by rfl, ?_⟩) ?_
    rotate_left
    · intro w'; go_simp; try with_reducible rfl
    simp only [Act.put, List.setIfInBounds_toArray, List.set_cons_zero, List.set_cons_succ]
    refine takeA (i := 5) (d := some 36) (v := ?_) rfl rfl (by kernel_rfl) (by kernel_rfl) (by kernel_rfl) (fun _ _ _ h => h) (Or.inl ⟨by rfl, ?_⟩) ?_
    rotate_left
    · intro w'; go_simp; try with_reducible rfl
    simp only [Act.put, List.setIfInBounds_toArray, List.set_cons_zero, List.set_cons_succ]
    refine takeA (i := 4) (d := some 35) (v := ?_) rfl rfl (by kernel_rfl) (by kernel_rfl) (by kernel_rfl) (fun _ _ _ h => h) (Or.inl ⟨by rfl, ?_⟩) ?_
    rotate_left
    · intro w'; go_simp; try with_reducible rfl
    simp only [Act.put, List.setIfInBounds_toArray, List.set_cons_zero, List.set_cons_succ]
    refine takeA (i := 6) (d := some 37) (v := ?_) rfl rfl (by kernel_rfl) (by kernel_rfl) (by kernel_rfl) (fun _ _ _ h => h) (Or.inl ⟨by rfl, ?_⟩) ?_
    rotate_left
    · intro w'; go_simp; try with_reducible rfl
    simp only [Act.put, List.setIfInBounds_toArray, List.set_cons_zero, List.set_cons_succ]
    refine wpAny_ready (rs := [7]) (by kernel_rfl) (by simp) ?_
    refine AllReady.cons rfl (fun K hK => ?_) AllReady.nil
    go_simp
    refine (HK.out _).mono ?_
    rintro e w3 ⟨rfl, hb3⟩
    have b3 := b2.drew.trans (hb3.mono b2.size)
    refine hK _ _ ?_
    clear hK K
    try simp only [Act.put, List.setIfInBounds_toArray, List.set_cons_zero, List.set_cons_succ]
    refine takeA (i := 8) (d := some 39) (v := ?_) rfl rfl (by kernel_rfl) (by kernel_rfl) (by kernel_rfl) (fun _ _ _ h => h) (Or.inl ⟨by rfl, ?_⟩) ?_
    rotate_left
    · intro w'; go_simp; try with_reducible rfl
    simp only [Act.put, List.setIfInBounds_toArray, List.set_cons_zero, List.set_cons_succ]
    refine takeA (i := 9) (d := some 30) (v := ?_) rfl rfl (by kernel_rfl) (by kernel_rfl) (by kernel_rfl) (fun _ _ _ h => h) (Or.inl ⟨by rfl, ?_⟩) ?_
    rotate_left
    · intro w'; go_simp; try with_reducible rfl
    simp only [Act.put, List.setIfInBounds_toArray, List.set_cons_zero, List.set_cons_succ]
    refine wpAny_done (by kernel_rfl) ?_ _
    go_wp2
    go_ret
    exact ⟨ret_int (by rw [HF.out, if_neg c1, if_neg (fun h => h.elim c2 c3), if_pos HZ.out]), b3⟩
  · have d4 : ((U : Int) != (C : Int)) = true := by simp; omega
    go_enter Try.func20, Try.ntmps20
    go_wp2_with fail
    refine (HT.out _).mono ?_; rintro e w1 ⟨rfl, hb1⟩
    go_wp2_with fail
    refine (HS.out _).mono ?_; rintro e w2 ⟨rfl, hb2⟩
    have b2 := hb1.trans (hb2.mono hb1.size)
    go_wp2_with fail
    refine wp_region_any (by kernel_rfl) ?_
    change wpAny _ _ _ _ _ _ _ (World.drew _)
    refine takeA (i := 0) (d := some 31) (v := ?_) rfl rfl (by kernel_rfl) (by kernel_rfl) (by kernel_rfl) (fun _ _ _ h => h) (Or.inl ⟨by rfl, ?_⟩) ?_
    rotate_left
    · intro w'; go_simp; try with_reducible rfl
    simp only [Act.put, List.setIfInBounds_toArray, List.set_cons_zero, List.set_cons_succ]
    refine takeA (i := 1) (d := some 32) (v := ?_) rfl rfl (by kernel_rfl) (by kernel_rfl) (by kernel_rfl) (fun _ _ _ h => h) (Or.inl ⟨by rfl, ?_⟩) ?_
    rotate_left
    · intro w'; go_simp; try with_reducible rfl
    simp only [Act.put, List.setIfInBounds_toArray, List.set_cons_zero, List.set_cons_succ]
    refine takeA (i := 2) (d := some 33) (v := ?_) rfl rfl (by kernel_rfl) (by kernel_rfl) (by kernel_rfl) (fun _ _ _ h => h) (Or.inl ⟨by rfl, ?_⟩) ?_
    rotate_left
    · intro w'; go_simp; try with_reducible rfl
    simp only [Act.put, List.setIfInBounds_toArray, List.set_cons_zero, List.set_cons_succ]
    refine takeA (i := 3) (d := some 34) (v := ?_) rfl rfl (by kernel_rfl) (by kernel_rfl) (by kernel_rfl) (fun _ _ _ h => h) (Or.inl ⟨by rfl, ?_⟩) ?_
    rotate_left
    · intro w'; go_simp; try with_reducible rfl
    simp only [Act.put, List.setIfInBounds_toArray, List.set_cons_zero, List.set_cons_succ]
    refine takeA (i := 5) (d := some 36) (v := ?_) rfl rfl (by kernel_rfl) (by kernel_rfl) (by kernel_rfl) (fun _ _ _ h => h) (Or.inl ⟨by rfl, ?_⟩) ?_
    rotate_left
    · intro w'; go_simp; try with_reducible rfl
    simp only [Act.put, List.setIfInBounds_toArray, List.set_cons_zero, List.set_cons_succ]
    refine takeA (i := 4) (d := some 35) (v := ?_) rfl rfl (by kernel_rfl) (by kernel_rfl) (by kernel_rfl) (fun _ _ _ h => h) (Or.inl ⟨by rfl, ?_⟩) ?_
    rotate_left
    · intro w'; go_simp; try with_reducible rfl
    simp only [Act.put, List.setIfInBounds_toArray, List.set_cons_zero, List.set_cons_succ]
    refine takeA (i := 6) (d := some 37) (v := ?_) rfl rfl (by kernel_rfl) (by kernel_rfl) (by kernel_rfl) (fun _ _ _ h => h) (Or.inl ⟨by rfl, ?_⟩) ?_
    rotate_left
    · intro w'; go_simp; try with_reducible rfl
    simp only [Act.put, List.setIfInBounds_toArray, List.set_cons_zero, List.set_cons_succ]
    refine wpAny_ready (rs := [7]) (by kernel_rfl) (by simp) ?_
    refine AllReady.cons rfl (fun K hK => ?_) AllReady.nil
    go_simp
    refine (HK.out _).mono ?_
    rintro e w3 ⟨rfl, hb3⟩
    have b3 := b2.drew.trans (hb3.mono b2.size)
    refine hK _ _ ?_
    clear hK K
    try simp only [Act.put, List.setIfInBounds_toArray, List.set_cons_zero, List.set_cons_succ]
    refine takeA (i := 8) (d := some 39) (v := ?_) rfl rfl (by kernel_rfl) (by kernel_rfl) (by kernel_rfl) (fun _ _ _ h => h) (Or.inl ⟨by rfl, ?_⟩) ?_
    rotate_left
    · intro w'; go_simp; try with_reducible rfl
    simp only [Act.put, List.setIfInBounds_toArray, List.set_cons_zero, List.set_cons_succ]
    refine takeA (i := 9) (d := some 30) (v := ?_) rfl rfl (by kernel_rfl) (by kernel_rfl) (by kernel_rfl) (fun _ _ _ h => h) (Or.inl ⟨by rfl, ?_⟩) ?_
    rotate_left
    · intro w'; go_simp; try with_reducible rfl
    simp only [Act.put, List.setIfInBounds_toArray, List.set_cons_zero, List.set_cons_succ]
    refine wpAny_done (by kernel_rfl) ?_ _
    go_wp2
    go_ret
    exact ⟨ret_int (by rw [HF.out, if_neg c1, if_neg (fun h => h.elim c2 c3), if_neg c4]), b3⟩

theorem flt_any (src dst : Nat) (s : ByteArray) (w : World) (h1 : src < 4294967296) (h2 : dst < 4294967296) (hs : s.size ≤ 281474976710656) :
    Calls Try.prog 20 #[.int .u32 (src : Int), .int .u32 (dst : Int), .string s] w fun e w' => e = .returned (.int .i64 (flt src dst s)) ∧ Below w.heap.size w w' := by
  by_cases h : s.size < 8
  · have := flt_short src dst s w h
    unfold flt; rw [if_pos h]; exact this
  · exact flt_long src dst s w h1 h2 (by omega) hs
end Go.Proofs.Ytaijmccdlffjhaa
