/-
  Contracts of twoAt, fourAt, bodyAt and fault (package tcp).
-/
import Derived.Test.YtggoipdmiajckaaSg
import Derived.Deep.CutRange
namespace Go.Proofs.Ytggoipdmiajckaa
open Go.RowKit
set_option linter.unusedVariables false
set_option linter.unusedSimpArgs false

/-- A byte of a text. -/
def bt (s : ByteArray) (k : Nat) : UInt8 := s.data.toList.getD k 0
/-- The number that two bytes of a text stand for. -/
def tw (s : ByteArray) (k : Nat) : Nat := w16 (bt s k) (bt s (k + 1))
theorem tw_le (s : ByteArray) (k : Nat) : tw s k ≤ 65535 := w16_le _ _
theorem bt_get (s : ByteArray) (k : Nat) (h : k < s.size) : bt s k = s[k] := by
  have h2 : k < s.data.toList.length := by simpa using h
  unfold bt
  rw [List.getD_eq_getElem?_getD, List.getElem?_eq_getElem h2]
  rfl
theorem ix_run (s : ByteArray) (q : Int) (k : Nat) (hq : q = k) (h : k < s.size) (w' : World) : (Instr.index 9 (.string s) (.int .i64 q)).run Try.prog w' = .ok (.int .u8 ((bt s k).toNat : Int)) w' := by
  subst hq
  have := run_index_string (P := Try.prog) w' 9 s .i64 (k : Int) Try.underlying9
  rw [dif_pos (by omega)] at this
  rw [bt_get s k h]
  simpa using this

theorem twoAt_any (s : ByteArray) (q : Int) (k : Nat) (w : World) (hq : q = k) (h : k + 1 < s.size) (hs : s.size ≤ 281474976710656) :
    Calls Try.prog 41 #[.string s, .int .i64 q] w fun e w' => e = .returned (.int .i64 (tw s k : Int)) ∧ Below w.heap.size w w' := by
  have h1 : (bt s k).toNat < 256 := (bt s k).toNat_lt
  have h2 : (bt s (k + 1)).toNat < 256 := (bt s (k + 1)).toNat_lt
  have ho := or_bytes (bt s k).toNat (bt s (k + 1)).toNat h1 h2
  have HR : Hid ((tw s k : Int) = ((bt s k).toNat : Int) * 256 + ((bt s (k + 1)).toNat : Int)) := by show _ = _; unfold tw w16; omega
  have i1 : ∀ w', (Instr.index 9 (.string s) (.int .i64 q)).run Try.prog w' = .ok (.int .u8 ((bt s k).toNat : Int)) w' := fun w' => ix_run s q k hq (by omega) w'
  have i2 : ∀ w', (Instr.index 9 (.string s) (.int .i64 (q + 1))).run Try.prog w' = .ok (.int .u8 ((bt s (k + 1)).toNat : Int)) w' := fun w' => ix_run s (q + 1) (k + 1) (by omega) (by omega) w'
  have v1 : IntKind.i64.wrap (q + 1) = q + 1 := by rw [IntKind.wrap_i64]; omega
  generalize tw s k = R at *
  generalize (bt s k).toNat = A at *
  generalize (bt s (k + 1)).toNat = B at *
  have q1 : -1 ≤ q := by omega
  have q2 : q ≤ 281474976710656 := by omega
  clear hq
  go_enter Try.func41, Try.ntmps41
  go_wp2
  go_quiet (fail)
  go_wp2
  go_ret
  exact ⟨ret_int HR.out.symm, below_drewN (Below.refl _ _) _⟩


theorem wrap_u32_in (n : Int) (h0 : 0 ≤ n) (h1 : n < 4294967296) : IntKind.u32.wrap n = n := by rw [IntKind.wrap_u32]; omega
theorem wrap_u8_in (n : Int) (h0 : 0 ≤ n) (h1 : n < 256) : IntKind.u8.wrap n = n := by rw [IntKind.wrap_u8]; omega
/-- The number that four bytes of a text stand for. -/
def fo (s : ByteArray) (k : Nat) : Nat := tw s k * 65536 + tw s (k + 2)
theorem fo_lt (s : ByteArray) (k : Nat) : fo s k < 4294967296 := by
  have := tw_le s k
  have := tw_le s (k + 2)
  unfold fo; omega
theorem or_words (a b : Nat) (ha : a < 65536) (hb : b < 65536) : bits BinOp.or IntKind.u32 ((a : Int) * 65536) (b : Int) = (a : Int) * 65536 + b :=
  bits_join .u32 32 (by decide) (fun n h0 h1 => wrap_u32_in n h0 (by omega)) 16 ((a : Int) * 65536) (b : Int) (by omega) (by omega) (by omega) (by omega) (by omega) (by omega)

theorem fourAt_any (s : ByteArray) (q : Int) (k : Nat) (w : World) (hq : q = k) (h : k + 3 < s.size) (hs : s.size ≤ 281474976710656) :
    Calls Try.prog 43 #[.string s, .int .i64 q] w fun e w' => e = .returned (.int .u32 (fo s k : Int)) ∧ Below w.heap.size w w' := by
  have H1 : Hid (∀ w', Calls Try.prog 41 #[.string s, .int .i64 q] w' fun e w'' => e = .returned (.int .i64 (tw s k : Int)) ∧ Below w'.heap.size w' w'') := fun w' => twoAt_any s q k w' hq (by omega) hs
  have H2 : Hid (∀ w', Calls Try.prog 41 #[.string s, .int .i64 (q + 2)] w' fun e w'' => e = .returned (.int .i64 (tw s (k + 2) : Int)) ∧ Below w'.heap.size w' w'') := fun w' => twoAt_any s (q + 2) (k + 2) w' (by omega) (by omega) hs
  have l1 := tw_le s k
  have l2 := tw_le s (k + 2)
  have ho := or_words (tw s k) (tw s (k + 2)) (by omega) (by omega)
  have HR : Hid ((fo s k : Int) = (tw s k : Int) * 65536 + (tw s (k + 2) : Int)) := by show _ = _; unfold fo; omega
  have v1 : IntKind.i64.wrap (q + 2) = q + 2 := by rw [IntKind.wrap_i64]; omega
  have v2 : IntKind.u32.wrap (tw s k : Int) = (tw s k : Int) := wrap_u32_in _ (by omega) (by omega)
  have v3 : IntKind.u32.wrap (tw s (k + 2) : Int) = (tw s (k + 2) : Int) := wrap_u32_in _ (by omega) (by omega)
  have v4 : IntKind.u32.wrap ((tw s k : Int) * 65536) = (tw s k : Int) * 65536 := wrap_u32_in _ (by omega) (by omega)
  generalize fo s k = R at *
  generalize tw s k = A at *
  generalize tw s (k + 2) = B at *
  have q1 : -1 ≤ q := by omega
  have q2 : q ≤ 281474976710656 := by omega
  clear hq
  go_enter Try.func43, Try.ntmps43
  go_wp2_with fail
  refine (H1.out _).mono ?_; rintro e w1 ⟨rfl, hb1⟩
  go_wp2_with fail
  refine (H2.out _).mono ?_; rintro e w2 ⟨rfl, hb2⟩
  go_wp2
  go_ret
  exact ⟨ret_int HR.out.symm, hb1.trans (hb2.mono hb1.size)⟩

/-- Where Body begins, as the text tells it. -/
def bo (s : ByteArray) : Nat := (bt s 12).toNat / 16 * 4
theorem bo_le (s : ByteArray) : bo s ≤ 60 := by
  have := (bt s 12).toNat_lt
  unfold bo; omega
theorem bodyAt_any (s : ByteArray) (w : World) (h : 12 < s.size) :
    Calls Try.prog 33 #[.string s] w fun e w' => e = .returned (.int .i64 (bo s : Int)) ∧ w' = w := by
  have i1 : ∀ w', (Instr.index 9 (.string s) (.int .i64 12)).run Try.prog w' = .ok (.int .u8 ((bt s 12).toNat : Int)) w' := fun w' => ix_run s 12 12 rfl h w'
  have hl := (bt s 12).toNat_lt
  have HR : Hid (((bo s : Nat) : Int) = ((bt s 12).toNat : Int) / 16 * 4) := by show _ = _; unfold bo; omega
  have e1 : ((bt s 12).toNat : Int).tdiv 16 = ((bt s 12).toNat : Int) / 16 := Int.tdiv_eq_ediv_of_nonneg (by omega)
  have v1 : IntKind.u8.wrap (((bt s 12).toNat : Int) / 16) = ((bt s 12).toNat : Int) / 16 := wrap_u8_in _ (by omega) (by omega)
  generalize bo s = R at *
  generalize (bt s 12).toNat = A at *
  have v2 : IntKind.i64.wrap ((A : Int) / 16) = (A : Int) / 16 := wraps_i64 _ (by omega) (by omega)
  have v3 : IntKind.i64.wrap ((A : Int) / 16 * 4) = (A : Int) / 16 * 4 := wraps_i64 _ (by omega) (by omega)
  go_enter Try.func33, Try.ntmps33
  go_wp2
  go_ret
  exact ⟨ret_int HR.out.symm, rfl⟩

theorem andNot_all : ∀ c : Fin 256, (bits BinOp.andNot IntKind.u8 ((c.val : Nat) : Int) 31 != 0) = decide (31 < c.val) := by decide +kernel
theorem andNot_any (c : Nat) (h : c < 256) : (bits BinOp.andNot IntKind.u8 (c : Int) 31 != 0) = decide (31 < c) := andNot_all ⟨c, h⟩

/-- What is wrong with a text, whatever stands in its options and in the fields that Check asks for. -/
def flt (src dst : Nat) (s : ByteArray) : Int :=
  if s.size < 20 then 3 else if bo s < 20 then 4 else if (bt s 12).toNat % 16 ≠ 0 then 4 else if s.size < bo s then 3 else if tw s 16 ≠ cs src dst (s.extract 0 16) (s.extract 18 s.size) then 5 else if 31 < (bt s 13).toNat then 4 else if tw s 18 ≠ 0 then 4 else 0

theorem flt_short (src dst : Nat) (s : ByteArray) (w : World) (h : s.size < 20) :
    Calls Try.prog 32 #[.int .u32 (src : Int), .int .u32 (dst : Int), .string s] w fun e w' => e = .returned (.int .i64 3) ∧ Below w.heap.size w w' := by
  have hlt : (s.size : Int) < 20 := by omega
  go_enter Try.func32, Try.ntmps32
  go_wp2
  go_ret
  exact ⟨rfl, Below.refl _ _⟩

set_option maxHeartbeats 4000000 in
theorem flt_long (src dst : Nat) (s : ByteArray) (w : World) (h1 : src < 4294967296) (h2 : dst < 4294967296) (h : 20 ≤ s.size) (hs : s.size ≤ 140737488355328) :
    Calls Try.prog 32 #[.int .u32 (src : Int), .int .u32 (dst : Int), .string s] w fun e w' => e = .returned (.int .i64 (flt src dst s)) ∧ Below w.heap.size w w' := by
  have hge : ¬ (s.size : Int) < 20 := by omega
  have HB : Hid (∀ w', Calls Try.prog 33 #[.string s] w' fun e w'' => e = .returned (.int .i64 (bo s : Int)) ∧ w'' = w') := fun w' => bodyAt_any s w' (by omega)
  have HT : Hid (∀ w', Calls Try.prog 41 #[.string s, .int .i64 16] w' fun e w'' => e = .returned (.int .i64 (tw s 16 : Int)) ∧ Below w'.heap.size w' w'') := fun w' => twoAt_any s 16 16 w' rfl (by omega) (by omega)
  have HU : Hid (∀ w', Calls Try.prog 41 #[.string s, .int .i64 18] w' fun e w'' => e = .returned (.int .i64 (tw s 18 : Int)) ∧ Below w'.heap.size w' w'') := fun w' => twoAt_any s 18 18 w' rfl (by omega) (by omega)
  have HF : Hid (flt src dst s = if bo s < 20 then 4 else if (bt s 12).toNat % 16 ≠ 0 then 4 else if s.size < bo s then 3 else if tw s 16 ≠ cs src dst (s.extract 0 16) (s.extract 18 s.size) then 5 else if 31 < (bt s 13).toNat then 4 else if tw s 18 ≠ 0 then 4 else 0) := by
    show _ = _
    unfold flt; rw [if_neg (by omega)]
  have i12 : ∀ w', (Instr.index 9 (.string s) (.int .i64 12)).run Try.prog w' = .ok (.int .u8 ((bt s 12).toNat : Int)) w' := fun w' => ix_run s 12 12 rfl (by omega) w'
  have i13 : ∀ w', (Instr.index 9 (.string s) (.int .i64 13)).run Try.prog w' = .ok (.int .u8 ((bt s 13).toNat : Int)) w' := fun w' => ix_run s 13 13 rfl (by omega) w'
  have hk16 := tw_le s 16
  have hk18 := tw_le s 18
  have hbo := bo_le s
  have s1 : ∀ w', (Instr.slice 9 (.string s) none (some (.int .i64 16)) none).run Try.prog w' = .ok (.string (s.extract 0 16)) w' := fun w' => by
    have := run_slice_string_h (P := Try.prog) w' 9 s Try.underlying9 .i64 16 (by omega) (by omega)
    simpa using this
  have s2 : ∀ w', (Instr.slice 9 (.string s) (some (.int .i64 18)) none none).run Try.prog w' = .ok (.string (s.extract 18 s.size)) w' := fun w' => by
    have := run_slice_string_l (P := Try.prog) w' 9 s Try.underlying9 .i64 18 (by omega) (by omega)
    simpa using this
  have HK : Hid (∀ w', Calls Try.prog 22 #[.int .u32 (src : Int), .int .u32 (dst : Int), .string (s.extract 0 16), .string (s.extract 18 s.size)] w' fun e w'' => e = .returned (.int .i64 (cs src dst (s.extract 0 16) (s.extract 18 s.size) : Int)) ∧ Below w'.heap.size w' w'') := fun w' => checkSum_any _ _ _ _ w' h1 h2 (by simp; omega) (by simp; omega)
  have l12 := (bt s 12).toNat_lt
  have l13 := (bt s 13).toNat_lt
  have HN : Hid ((bits BinOp.andNot IntKind.u8 ((bt s 13).toNat : Int) 31 != 0) = decide (31 < (bt s 13).toNat)) := andNot_any _ l13
  generalize flt src dst s = R at *
  generalize cs src dst (s.extract 0 16) (s.extract 18 s.size) = C at *
  generalize s.extract 0 16 = X at *
  generalize s.extract 18 s.size = Y at *
  generalize bo s = T at *
  generalize tw s 16 = U at *
  generalize tw s 18 = V at *
  generalize (bt s 12).toNat = A at *
  generalize (bt s 13).toNat = B at *
  by_cases c1 : T < 20
  · have d1 : (T : Int) < 20 := by omega
    go_enter Try.func32, Try.ntmps32
    go_wp2_with fail
    refine (HB.out _).mono ?_; rintro e w1 ⟨rfl, rfl⟩
    go_wp2
    go_ret
    exact ⟨ret_int (by rw [HF.out, if_pos c1]), Below.refl _ _⟩
  have d1 : decide ((T : Int) < 20) = false := by simp; omega
  by_cases c2 : A % 16 ≠ 0
  · have d2 : ((A : Int) % 16 != 0) = true := by simp; omega
    go_enter Try.func32, Try.ntmps32
    go_wp2_with fail
    refine (HB.out _).mono ?_; rintro e w1 ⟨rfl, rfl⟩
    go_wp2
    go_ret
    exact ⟨ret_int (by rw [HF.out, if_neg c1, if_pos c2]), Below.refl _ _⟩
  have d2 : ((A : Int) % 16 != 0) = false := by simp; omega
  by_cases c3 : s.size < T
  · have d3 : (s.size : Int) < (T : Int) := by omega
    go_enter Try.func32, Try.ntmps32
    go_wp2_with fail
    refine (HB.out _).mono ?_; rintro e w1 ⟨rfl, rfl⟩
    go_wp2
    go_ret
    exact ⟨ret_int (by rw [HF.out, if_neg c1, if_neg c2, if_pos c3]), Below.refl _ _⟩
  have d3 : ¬ (s.size : Int) < (T : Int) := by omega
  have HE : Hid (∀ q, ((U : Int) != (C : Int)) = q → (q = true ↔ U ≠ C)) := fun q hq => by rw [← hq]; simp; omega
  have HQ := Lib.hid (HE.out _ rfl)
  clear HE
  generalize hq : ((U : Int) != (C : Int)) = q at *
  go_enter Try.func32, Try.ntmps32
  go_wp2_with fail
  refine (HB.out _).mono ?_; rintro e w1 ⟨rfl, rfl⟩
  go_wp2_with fail
  go_cut [27] from 28 to 37 (fun v wc => v = .bool q ∧ Below w1.heap.size w1 wc)
  case first =>
    refine wp_region_any (by kernel_rfl) ?_
    change wpAny _ _ _ _ _ _ _ (World.drew _)
    refine takeA (i := 0) (d := some 28) (v := ?_) rfl rfl (by kernel_rfl) (by kernel_rfl) (by kernel_rfl) (fun _ _ _ h => h) (Or.inl ⟨by rfl, ?_⟩) ?_
    rotate_left
    · intro w'; go_simp; try with_reducible rfl
    simp only [Act.put, List.setIfInBounds_toArray, List.set_cons_zero, List.set_cons_succ]
    refine takeA (i := 2) (d := some 30) (v := ?_) rfl rfl (by kernel_rfl) (by kernel_rfl) (by kernel_rfl) (fun _ _ _ h => h) (Or.inl ⟨by rfl, ?_⟩) ?_
    rotate_left
    · intro w'; go_simp; try with_reducible rfl
    simp only [Act.put, List.setIfInBounds_toArray, List.set_cons_zero, List.set_cons_succ]
    refine takeA (i := 3) (d := some 31) (v := ?_) rfl rfl (by kernel_rfl) (by kernel_rfl) (by kernel_rfl) (fun _ _ _ h => h) (Or.inl ⟨by rfl, ?_⟩) ?_
    rotate_left
    · intro w'; go_simp; try with_reducible rfl
    simp only [Act.put, List.setIfInBounds_toArray, List.set_cons_zero, List.set_cons_succ]
    refine takeA (i := 4) (d := some 32) (v := ?_) rfl rfl (by kernel_rfl) (by kernel_rfl) (by kernel_rfl) (fun _ _ _ h => h) (Or.inl ⟨by rfl, ?_⟩) ?_
    rotate_left
    · intro w'; go_simp; try with_reducible rfl
    simp only [Act.put, List.setIfInBounds_toArray, List.set_cons_zero, List.set_cons_succ]
    refine takeA (i := 6) (d := some 34) (v := ?_) rfl rfl (by kernel_rfl) (by kernel_rfl) (by kernel_rfl) (fun _ _ _ h => h) (Or.inl ⟨by rfl, ?_⟩) ?_
    rotate_left
    · intro w'; go_simp; try with_reducible rfl
    simp only [Act.put, List.setIfInBounds_toArray, List.set_cons_zero, List.set_cons_succ]
    refine takeA (i := 5) (d := some 33) (v := ?_) rfl rfl (by kernel_rfl) (by kernel_rfl) (by kernel_rfl) (fun _ _ _ h => h) (Or.inl ⟨by rfl, ?_⟩) ?_
    rotate_left
    · intro w'; go_simp; try with_reducible rfl
    simp only [Act.put, List.setIfInBounds_toArray, List.set_cons_zero, List.set_cons_succ]
    refine takeA (i := 7) (d := some 35) (v := ?_) rfl rfl (by kernel_rfl) (by kernel_rfl) (by kernel_rfl) (fun _ _ _ h => h) (Or.inl ⟨by rfl, ?_⟩) ?_
    rotate_left
    · intro w'; go_simp; try with_reducible rfl
    simp only [Act.put, List.setIfInBounds_toArray, List.set_cons_zero, List.set_cons_succ]
    refine wpAny_ready (rs := [1]) (by kernel_rfl) (by simp) ?_
    refine AllReady.cons rfl (fun K hK => ?_) AllReady.nil
    go_simp
    refine (HT.out _).mono ?_
    rintro e w2 ⟨rfl, hb2⟩
    have b2 := ((Below.refl w1.heap.size w1).drew).trans hb2
    refine hK _ _ ?_
    clear hK K
    try simp only [Act.put, List.setIfInBounds_toArray, List.set_cons_zero, List.set_cons_succ]
    refine wpAny_ready (rs := [8]) (by kernel_rfl) (by simp) ?_
    refine AllReady.cons rfl (fun K hK => ?_) AllReady.nil
    go_simp
    refine (HK.out _).mono ?_
    rintro e w3 ⟨rfl, hb3⟩
    have b3 := b2.trans (hb3.mono b2.size)
    refine hK _ _ ?_
    clear hK K
    try simp only [Act.put, List.setIfInBounds_toArray, List.set_cons_zero, List.set_cons_succ]
    refine takeA (i := 9) (d := some 37) (v := ?_) rfl rfl (by kernel_rfl) (by kernel_rfl) (by kernel_rfl) (fun _ _ _ h => h) (Or.inl ⟨by rfl, ?_⟩) ?_
    rotate_left
    · intro w'; go_simp; try with_reducible rfl
    simp only [Act.put, List.setIfInBounds_toArray, List.set_cons_zero, List.set_cons_succ]
    refine takeA (i := 10) (d := some 27) (v := ?_) rfl rfl (by kernel_rfl) (by kernel_rfl) (by kernel_rfl) (fun _ _ _ h => h) (Or.inl ⟨by rfl, ?_⟩) ?_
    rotate_left
    · intro w'; go_simp; try with_reducible rfl
    simp only [Act.put, List.setIfInBounds_toArray, List.set_cons_zero, List.set_cons_succ]
    refine wpAny_done (by kernel_rfl) ?_ _
    try go_wp2_with fail
    go_meet
    exact ⟨rfl, b3⟩
  case rest =>
    obtain ⟨rfl, b⟩ := hcut
    clear hq
    cases q
    · have c4 : ¬ U ≠ C := fun x => by have := HQ.out.2 x; cases this
      by_cases c5 : 31 < B
      · have d5 : (bits BinOp.andNot IntKind.u8 (B : Int) 31 != 0) = true := by rw [HN.out]; simpa using c5
        go_wp2
        go_ret
        exact ⟨ret_int (by rw [HF.out, if_neg c1, if_neg c2, if_neg c3, if_neg c4, if_pos c5]), b⟩
      · have d5 : (bits BinOp.andNot IntKind.u8 (B : Int) 31 != 0) = false := by rw [HN.out]; simpa using c5
        by_cases c6 : V ≠ 0
        · have d6 : ((V : Int) != 0) = true := by simp; omega
          go_wp2_with fail
          refine (HU.out _).mono ?_; rintro e w4 ⟨rfl, hb4⟩
          go_wp2
          go_ret
          exact ⟨ret_int (by rw [HF.out, if_neg c1, if_neg c2, if_neg c3, if_neg c4, if_neg c5, if_pos c6]), b.trans (hb4.mono b.size)⟩
        · have d6 : ((V : Int) != 0) = false := by simp; omega
          go_wp2_with fail
          refine (HU.out _).mono ?_; rintro e w4 ⟨rfl, hb4⟩
          go_wp2
          go_ret
          exact ⟨ret_int (by rw [HF.out, if_neg c1, if_neg c2, if_neg c3, if_neg c4, if_neg c5, if_neg c6]), b.trans (hb4.mono b.size)⟩
    · have c4 : U ≠ C := HQ.out.1 rfl
      go_wp2
      go_ret
      exact ⟨ret_int (by rw [HF.out, if_neg c1, if_neg c2, if_neg c3, if_pos c4]), b⟩

theorem flt_any (src dst : Nat) (s : ByteArray) (w : World) (h1 : src < 4294967296) (h2 : dst < 4294967296) (hs : s.size ≤ 140737488355328) :
    Calls Try.prog 32 #[.int .u32 (src : Int), .int .u32 (dst : Int), .string s] w fun e w' => e = .returned (.int .i64 (flt src dst s)) ∧ Below w.heap.size w w' := by
  by_cases h : s.size < 20
  · have := flt_short src dst s w h
    unfold flt; rw [if_pos h]; exact this
  · exact flt_long src dst s w h1 h2 (by omega) hs
end Go.Proofs.Ytggoipdmiajckaa
