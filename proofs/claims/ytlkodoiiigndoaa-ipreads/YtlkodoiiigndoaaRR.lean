/-
  Contract of the document's IpRead.
-/
import Derived.Test.YtlkodoiiigndoaaAny
import Derived.Deep.CutRange
namespace Go.Proofs.Ytlkodoiiigndoaa
open Go.RowKit
set_option linter.unusedVariables false
set_option linter.unusedSimpArgs false

theorem ext_bytes (s : ByteArray) (h : 20 ≤ s.size) (a b : Nat) (hb' : b ≤ 20) : (s.extract a b).data.toList = ((hl (Bs s)).take b).drop a := by
  rw [extract_list, hb_hl s h]; unfold hb; rw [List.take_take, Nat.min_eq_left hb']
theorem nv_four (a b c d : UInt8) : Pm.nv [a, b, c, d] = w16 a b * 65536 + w16 c d := by
  have := a.toNat_lt
  have := b.toNat_lt
  have := c.toNat_lt
  have := d.toNat_lt
  simp only [Pm.nv, List.foldl_cons, List.foldl_nil, w16]; omega
theorem numS2 (s : ByteArray) (h : 20 ≤ s.size) (a b : Nat) (hab : (a = 2 ∧ b = 4) ∨ (a = 4 ∧ b = 6) ∨ (a = 6 ∧ b = 8) ∨ (a = 10 ∧ b = 12)) (w : World) :
    Calls Try.prog 27 #[.string (s.extract a b)] w fun e w' => e = .returned (.int .u64 (w16 (Bs s a) (Bs s (a + 1)) : Int)) ∧ ∃ k, w' = w.drewN k := by
  have hz : (s.extract a b).size = 2 := by rcases hab with ⟨rfl, rfl⟩ | ⟨rfl, rfl⟩ | ⟨rfl, rfl⟩ | ⟨rfl, rfl⟩ <;> simp <;> omega
  have := num_any 2 (s.extract a b) w hz (by omega)
  have e : Pm.nv (s.extract a b).data.toList = w16 (Bs s a) (Bs s (a + 1)) := by
    rcases hab with ⟨rfl, rfl⟩ | ⟨rfl, rfl⟩ | ⟨rfl, rfl⟩ | ⟨rfl, rfl⟩ <;> rw [ext_bytes s h _ _ (by omega)] <;> exact Pm.nv_two _ _
  rwa [e] at this
theorem numS4 (s : ByteArray) (h : 20 ≤ s.size) (a b : Nat) (hab : (a = 12 ∧ b = 16) ∨ (a = 16 ∧ b = 20)) (w : World) :
    Calls Try.prog 27 #[.string (s.extract a b)] w fun e w' => e = .returned (.int .u64 (w32 (Bs s) a : Int)) ∧ ∃ k, w' = w.drewN k := by
  have hz : (s.extract a b).size = 4 := by rcases hab with ⟨rfl, rfl⟩ | ⟨rfl, rfl⟩ <;> simp <;> omega
  have := num_any 4 (s.extract a b) w hz (by omega)
  have e : Pm.nv (s.extract a b).data.toList = w32 (Bs s) a := by
    rcases hab with ⟨rfl, rfl⟩ | ⟨rfl, rfl⟩ <;> rw [ext_bytes s h _ _ (by omega)] <;> exact nv_four _ _ _ _
  rwa [e] at this
theorem Bs_get (s : ByteArray) (h : 20 ≤ s.size) (i : Nat) (hi : i < 20) : Bs s i = s[i]'(by omega) := by
  unfold Bs at20 hb
  have hl : i < (s.data.toList.take 20).length := by rw [List.length_take, ← Lib.size_eq]; omega
  rw [List.getD_eq_getElem?_getD, List.getElem?_eq_getElem hl]
  simp only [List.getElem_take, Option.getD_some]
  rfl
theorem ixS (s : ByteArray) (h : 20 ≤ s.size) (i : Nat) (hi : i < 20) (w : World) : (Instr.index 9 (.string s) (.int .i64 (i : Int))).run Try.prog w = .ok (.int .u8 ((Bs s i).toNat : Int)) w := by
  have := run_index_string (P := Try.prog) w 9 s .i64 (i : Int) Try.underlying9
  rw [dif_pos (by omega)] at this
  rw [Bs_get s h i hi]
  simpa using this
theorem slS (s : ByteArray) (h : 20 ≤ s.size) (a b : Nat) (hab : a ≤ b) (hb' : b ≤ 20) (w : World) : (Instr.slice 9 (.string s) (some (.int .i64 (a : Int))) (some (.int .i64 (b : Int))) none).run Try.prog w = .ok (.string (s.extract a b)) w := by
  have := run_slice_string (P := Try.prog) w 9 s .i64 .i64 (a : Int) (b : Int) Try.underlying9 (by omega) (by omega) (by omega)
  simpa using this

theorem rread_short (s : ByteArray) (w : World) (h : s.size < 20) :
    Calls Try.prog 13 #[.string s] w fun e w' => e = .returned (.tuple #[pv pz, .int .i64 3]) ∧ Below w.heap.size w w' := by
  have hlt : (s.size : Int) < 20 := by omega
  have b0 : Below w.heap.size w (w.alloc (.cells (pc pz) 24)) := (Below.refl _ _).alloc (Nat.le_refl _) _
  go_enter Try.func13, Try.ntmps13
  go_wp2
  exact bodyPost_ret (v := .tuple #[pv pz, .int .i64 3]) (by simp [results, Try.results13, go_sem, pz]) rfl ⟨rfl, b0⟩

/-- The two blocks of IpRead's own: what is told, the packet so far. -/
structure RSt (w : World) (s : ByteArray) (W : World) : Prop where
  zero : PB w.heap.size pz W
  pack : PB (w.heap.size + 1) (rp s) W
  bel : Below w.heap.size w W
theorem RSt.keep {w : World} {s : ByteArray} {W W1 : World} (h : RSt w s W) (hb : Below W.heap.size W W1) : RSt w s W1 := ⟨h.zero.keep hb, h.pack.keep hb, h.bel.trans (hb.mono (Nat.le_of_lt h.zero.lt))⟩
theorem RSt.drewN {w : World} {s : ByteArray} {W : World} (h : RSt w s W) (k : Nat) : RSt w s (W.drewN k) := ⟨h.zero, h.pack, below_drewN h.bel k⟩
theorem RSt.new (w : World) (s : ByteArray) : RSt w s ((w.alloc (.cells pzc 24)).alloc (.cells (pc (rp s)) 24)) := by
  have e1 : (w.alloc (.cells pzc 24)).heap.size = w.heap.size + 1 := by simp
  refine ⟨PB.alloc (p := pz) (PB.new w pz) _, ?_, ((Below.refl _ _).alloc (Nat.le_refl _) _).alloc (by rw [e1]; omega) _⟩
  have := PB.new (w.alloc (.cells pzc 24)) (rp s)
  rwa [e1] at this

/-- A packet's nine cells stored one by one into the second block. -/
theorem RSt.chain (w : World) (s : ByteArray) (W : World) (h : PB w.heap.size pz W ∧ PB (w.heap.size + 1) pz W ∧ Below w.heap.size w W) (v0 v1 v2 v3 v4 v5 v6 v7 v8 : Value) (hv : pc (rp s) = #[v0, v1, v2, v3, v4, v5, v6, v7, v8]) :
    RSt w s (((((((((W.setCell ⟨w.heap.size + 1, 0, none⟩ v0).setCell ⟨w.heap.size + 1, 1, none⟩ v1).setCell ⟨w.heap.size + 1, 2, none⟩ v2).setCell ⟨w.heap.size + 1, 3, none⟩ v3).setCell ⟨w.heap.size + 1, 4, none⟩ v4).setCell ⟨w.heap.size + 1, 5, none⟩ v5).setCell ⟨w.heap.size + 1, 6, none⟩ v6).setCell ⟨w.heap.size + 1, 7, none⟩ v7).setCell ⟨w.heap.size + 1, 8, none⟩ v8) := by
  have hne : w.heap.size ≠ w.heap.size + 1 := by omega
  have hle : w.heap.size ≤ w.heap.size + 1 := by omega
  obtain ⟨z, e, b⟩ := h
  have e' : W.heap[w.heap.size + 1]? = some (.cells pzc 24 (0, 0)) := e
  have z0 := PB.setOther z hne 0 v0
  have z1 := PB.setOther z0 hne 1 v1
  have z2 := PB.setOther z1 hne 2 v2
  have z3 := PB.setOther z2 hne 3 v3
  have z4 := PB.setOther z3 hne 4 v4
  have z5 := PB.setOther z4 hne 5 v5
  have z6 := PB.setOther z5 hne 6 v6
  have z7 := PB.setOther z6 hne 7 v7
  have z8 := PB.setOther z7 hne 8 v8
  have e0 := Joins.block_setCell (i := 0) e' v0
  have e1 := Joins.block_setCell (i := 1) e0 v1
  have e2 := Joins.block_setCell (i := 2) e1 v2
  have e3 := Joins.block_setCell (i := 3) e2 v3
  have e4 := Joins.block_setCell (i := 4) e3 v4
  have e5 := Joins.block_setCell (i := 5) e4 v5
  have e6 := Joins.block_setCell (i := 6) e5 v6
  have e7 := Joins.block_setCell (i := 7) e6 v7
  have e8 := Joins.block_setCell (i := 8) e7 v8
  have b0 := Below.setCell b (p := ⟨w.heap.size + 1, 0, none⟩) hle v0
  have b1 := Below.setCell b0 (p := ⟨w.heap.size + 1, 1, none⟩) hle v1
  have b2 := Below.setCell b1 (p := ⟨w.heap.size + 1, 2, none⟩) hle v2
  have b3 := Below.setCell b2 (p := ⟨w.heap.size + 1, 3, none⟩) hle v3
  have b4 := Below.setCell b3 (p := ⟨w.heap.size + 1, 4, none⟩) hle v4
  have b5 := Below.setCell b4 (p := ⟨w.heap.size + 1, 5, none⟩) hle v5
  have b6 := Below.setCell b5 (p := ⟨w.heap.size + 1, 6, none⟩) hle v6
  have b7 := Below.setCell b6 (p := ⟨w.heap.size + 1, 7, none⟩) hle v7
  have b8 := Below.setCell b7 (p := ⟨w.heap.size + 1, 8, none⟩) hle v8
  refine ⟨z8, ?_, b8⟩
  simp only [List.setIfInBounds_toArray, List.set_cons_zero, List.set_cons_succ] at e8
  unfold PB
  rw [hv]
  exact e8
theorem RSt.base (w : World) (a b : Nat) : PB w.heap.size pz ((((w.alloc (.cells pzc 24)).drewN a).alloc (.cells pzc 24)).drewN b) ∧ PB (w.heap.size + 1) pz ((((w.alloc (.cells pzc 24)).drewN a).alloc (.cells pzc 24)).drewN b) ∧ Below w.heap.size w ((((w.alloc (.cells pzc 24)).drewN a).alloc (.cells pzc 24)).drewN b) := by
  have e1 : ((w.alloc (.cells pzc 24)).drewN a).heap.size = w.heap.size + 1 := by show (w.alloc (.cells pzc 24)).heap.size = _; simp
  have h1 : PB w.heap.size pz ((w.alloc (.cells pzc 24)).drewN a) := PB.new w pz
  have h2 : PB (w.heap.size + 1) pz (((w.alloc (.cells pzc 24)).drewN a).alloc (.cells pzc 24)) := by
    have := PB.new ((w.alloc (.cells pzc 24)).drewN a) pz
    rwa [e1] at this
  have h3 : Below w.heap.size w ((w.alloc (.cells pzc 24)).drewN a) := below_drewN ((Below.refl _ _).alloc (Nat.le_refl _) _) a
  exact ⟨h1.alloc _, h2, below_drewN (h3.alloc h3.size _) b⟩

set_option maxHeartbeats 8000000 in
theorem rread_long (s : ByteArray) (w : World) (h : 20 ≤ s.size) (hS : s.size ≤ 281474976710656) :
    Calls Try.prog 13 #[.string s] w fun e w' => e = .returned (.tuple #[pv (rt s), .int .i64 (rerr s)]) ∧ Below w.heap.size w w' := by
  have hge : ¬ (s.size : Int) < 20 := by omega
  have HX : Hid (∀ c, flt (Bs s) s.size = c → c ≠ 0 → rt s = pz ∧ rerr s = c) := fun c hc hn => by
    have e : rerr s = c := by unfold rerr; rw [if_neg (by omega), if_pos (by rw [hc]; exact hn), hc]
    exact ⟨by unfold rt; rw [e, if_neg hn], e⟩
  have HY : Hid (flt (Bs s) s.size = 0 → rerr s = chk (rp s)) := fun hc => by unfold rerr; rw [if_neg (by omega), if_neg (by omega)]
  have HFl : Hid (flt (Bs s) s.size = if (Bs s 0).toNat ≠ 69 then 6 else if (Bs s 1).toNat ≠ 0 ∨ 32768 ≤ w16 (Bs s 6) (Bs s 7) then 4 else if s.size < w16 (Bs s 2) (Bs s 3) then 3 else if w16 (Bs s 2) (Bs s 3) < s.size then 4 else if w16 (Bs s 10) (Bs s 11) ≠ hs (Bs s) then 5 else 0) := rfl
  have N6 : Hid (∀ w', Calls Try.prog 27 #[.string (s.extract 6 8)] w' fun e w'' => e = .returned (.int .u64 (w16 (Bs s 6) (Bs s 7) : Int)) ∧ ∃ k, w'' = w'.drewN k) := fun w' => numS2 s h 6 8 (by simp) w'
  have N4 : Hid (∀ w', Calls Try.prog 27 #[.string (s.extract 4 6)] w' fun e w'' => e = .returned (.int .u64 (w16 (Bs s 4) (Bs s 5) : Int)) ∧ ∃ k, w'' = w'.drewN k) := fun w' => numS2 s h 4 6 (by simp) w'
  have N2 : Hid (∀ w', Calls Try.prog 27 #[.string (s.extract 2 4)] w' fun e w'' => e = .returned (.int .u64 (w16 (Bs s 2) (Bs s 3) : Int)) ∧ ∃ k, w'' = w'.drewN k) := fun w' => numS2 s h 2 4 (by simp) w'
  have N10 : Hid (∀ w', Calls Try.prog 27 #[.string (s.extract 10 12)] w' fun e w'' => e = .returned (.int .u64 (w16 (Bs s 10) (Bs s 11) : Int)) ∧ ∃ k, w'' = w'.drewN k) := fun w' => numS2 s h 10 12 (by simp) w'
  have N12 : Hid (∀ w', Calls Try.prog 27 #[.string (s.extract 12 16)] w' fun e w'' => e = .returned (.int .u64 (w32 (Bs s) 12 : Int)) ∧ ∃ k, w'' = w'.drewN k) := fun w' => numS4 s h 12 16 (by simp) w'
  have N16 : Hid (∀ w', Calls Try.prog 27 #[.string (s.extract 16 20)] w' fun e w'' => e = .returned (.int .u64 (w32 (Bs s) 16 : Int)) ∧ ∃ k, w'' = w'.drewN k) := fun w' => numS4 s h 16 20 (by simp) w'
  have l6_8 : ∀ w', (Instr.slice 9 (.string s) (some (.int .i64 6)) (some (.int .i64 8)) none).run Try.prog w' = .ok (.string (s.extract 6 8)) w' := fun w' => slS s h 6 8 (by omega) (by omega) w'
  have l4_6 : ∀ w', (Instr.slice 9 (.string s) (some (.int .i64 4)) (some (.int .i64 6)) none).run Try.prog w' = .ok (.string (s.extract 4 6)) w' := fun w' => slS s h 4 6 (by omega) (by omega) w'
  have l2_4 : ∀ w', (Instr.slice 9 (.string s) (some (.int .i64 2)) (some (.int .i64 4)) none).run Try.prog w' = .ok (.string (s.extract 2 4)) w' := fun w' => slS s h 2 4 (by omega) (by omega) w'
  have l10_12 : ∀ w', (Instr.slice 9 (.string s) (some (.int .i64 10)) (some (.int .i64 12)) none).run Try.prog w' = .ok (.string (s.extract 10 12)) w' := fun w' => slS s h 10 12 (by omega) (by omega) w'
  have l12_16 : ∀ w', (Instr.slice 9 (.string s) (some (.int .i64 12)) (some (.int .i64 16)) none).run Try.prog w' = .ok (.string (s.extract 12 16)) w' := fun w' => slS s h 12 16 (by omega) (by omega) w'
  have l16_20 : ∀ w', (Instr.slice 9 (.string s) (some (.int .i64 16)) (some (.int .i64 20)) none).run Try.prog w' = .ok (.string (s.extract 16 20)) w' := fun w' => slS s h 16 20 (by omega) (by omega) w'
  have l12_20 : ∀ w', (Instr.slice 9 (.string s) (some (.int .i64 12)) (some (.int .i64 20)) none).run Try.prog w' = .ok (.string (s.extract 12 20)) w' := fun w' => slS s h 12 20 (by omega) (by omega) w'
  have l0_10 : ∀ w', (Instr.slice 9 (.string s) none (some (.int .i64 10)) none).run Try.prog w' = .ok (.string (s.extract 0 10)) w' := fun w' => by
    have := run_slice_string_h (P := Try.prog) w' 9 s Try.underlying9 .i64 10 (by omega) (by omega)
    simpa using this
  have l20 : ∀ w', (Instr.slice 9 (.string s) (some (.int .i64 20)) none none).run Try.prog w' = .ok (.string (s.extract 20 s.size)) w' := fun w' => by
    have := run_slice_string_l (P := Try.prog) w' 9 s Try.underlying9 .i64 20 (by omega) (by omega)
    simpa using this
  have x0 : ∀ w', (Instr.index 9 (.string s) (.int .i64 0)).run Try.prog w' = .ok (.int .u8 ((Bs s 0).toNat : Int)) w' := fun w' => ixS s h 0 (by omega) w'
  have x1 : ∀ w', (Instr.index 9 (.string s) (.int .i64 1)).run Try.prog w' = .ok (.int .u8 ((Bs s 1).toNat : Int)) w' := fun w' => ixS s h 1 (by omega) w'
  have x8 : ∀ w', (Instr.index 9 (.string s) (.int .i64 8)).run Try.prog w' = .ok (.int .u8 ((Bs s 8).toNat : Int)) w' := fun w' => ixS s h 8 (by omega) w'
  have x9 : ∀ w', (Instr.index 9 (.string s) (.int .i64 9)).run Try.prog w' = .ok (.int .u8 ((Bs s 9).toNat : Int)) w' := fun w' => ixS s h 9 (by omega) w'
  have zA : (s.extract 0 10).size = 10 := by simp; omega
  have zB : (s.extract 12 20).size = 8 := by simp; omega
  have hadd : ∀ w', (Op.stringOp .add (s.extract 0 10) (s.extract 12 20)).run Try.prog w' = .ok (.string (s.extract 0 10 ++ s.extract 12 20)) w' := fun w' => run_string_add_sum w' _ _ (by omega)
  obtain ⟨F, hF⟩ : ∃ F, F = Pm.fd (Pm.hv true (s.extract 0 10 ++ s.extract 12 20).data.toList) := ⟨_, rfl⟩
  have HQ : Hid (∀ w', Calls Try.prog 21 #[.string (s.extract 0 10 ++ s.extract 12 20)] w' fun e w'' => e = .returned (.int .u16 (F : Int)) ∧ Below w'.heap.size w' w'') := fun w' => by
    have := rsum_even (s.extract 0 10 ++ s.extract 12 20) w' (by rw [ByteArray.size_append]; omega) (by rw [ByteArray.size_append]; omega)
    rwa [← hF] at this
  have hFle : F ≤ 65535 := by rw [hF]; exact Pm.fd_le _
  have HSF : Hid (hs (Bs s) = 65535 - F) := by
    show _ = _
    rw [hs_hl, hF, ByteArray.data_append, Array.toList_append, ext_bytes s h 0 10 (by omega), ext_bytes s h 12 20 (by omega)]
    rfl
  clear hF
  have HK : Hid (∀ w', Calls Try.prog 11 #[pv (rp s)] w' fun e w'' => e = .returned (.int .i64 (chk (rp s))) ∧ Below w'.heap.size w' w'') := fun w' => rchk_any (rp s) w'
  have q6 := w16_le (Bs s 6) (Bs s 7)
  have q4 := w16_le (Bs s 4) (Bs s 5)
  have q2 := w16_le (Bs s 2) (Bs s 3)
  have q10 := w16_le (Bs s 10) (Bs s 11)
  have q12 := w32_lt (Bs s) 12
  have q16 := w32_lt (Bs s) 16
  have h8 : (Bs s 8).toNat < 256 := (Bs s 8).toNat_lt
  have h9 : (Bs s 9).toNat < 256 := (Bs s 9).toNat_lt
  have HNew := Lib.hid (RSt.new w s)
  obtain ⟨RP, hRP⟩ : ∃ RP, RP = pc (rp s) := ⟨_, rfl⟩
  obtain ⟨D1, hD1⟩ : ∃ D, D = decide (w16 (Bs s 6) (Bs s 7) / 16384 % 2 = 1) := ⟨_, rfl⟩
  obtain ⟨D2, hD2⟩ : ∃ D, D = decide (w16 (Bs s 6) (Bs s 7) / 8192 % 2 = 1) := ⟨_, rfl⟩
  obtain ⟨M, hM⟩ : ∃ M, M = w16 (Bs s 6) (Bs s 7) % 8192 := ⟨_, rfl⟩
  have HRP : Hid (pc (rp s) = #[.int .u32 (w32 (Bs s) 12 : Int), .int .u32 (w32 (Bs s) 16 : Int), .int .i64 ((Bs s 9).toNat : Int), .int .i64 ((Bs s 8).toNat : Int), .int .i64 (w16 (Bs s 4) (Bs s 5) : Int), .bool D1, .bool D2, .int .i64 (M : Int), .string (s.extract 20 s.size)]) := by
    show _ = _
    rw [hD1, hD2, hM]; rfl
  rw [HRP.out] at HNew
  have t1 : (((w16 (Bs s 6) (Bs s 7) : Int) / 16384).tmod 2) = (w16 (Bs s 6) (Bs s 7) : Int) / 16384 % 2 := Int.tmod_eq_emod_of_nonneg (by omega)
  have t2 : (((w16 (Bs s 6) (Bs s 7) : Int) / 8192).tmod 2) = (w16 (Bs s 6) (Bs s 7) : Int) / 8192 % 2 := Int.tmod_eq_emod_of_nonneg (by omega)
  have t3 : (w16 (Bs s 6) (Bs s 7) : Int).tmod 8192 = (w16 (Bs s 6) (Bs s 7) : Int) % 8192 := Int.tmod_eq_emod_of_nonneg (by omega)
  have g1 : ((IntKind.i64.wrap ((w16 (Bs s 6) (Bs s 7) : Int) / 16384)).tmod 2 == 1) = D1 := by
    rw [wraps_i64 _ (by omega) (by omega), t1, hD1, Bool.eq_iff_iff]; simp; omega
  have g2 : ((IntKind.i64.wrap ((w16 (Bs s 6) (Bs s 7) : Int) / 8192)).tmod 2 == 1) = D2 := by
    rw [wraps_i64 _ (by omega) (by omega), t2, hD2, Bool.eq_iff_iff]; simp; omega
  have g3 : (w16 (Bs s 6) (Bs s 7) : Int).tmod 8192 = (M : Int) := by rw [t3]; omega
  clear t1 t2 t3
  clear hD1 hD2 hM
  have HSt0 : Hid (∀ W, RSt w s W → True) := fun _ _ => trivial
  have v1 : IntKind.u32.wrap (w32 (Bs s) 12 : Int) = (w32 (Bs s) 12 : Int) := by rw [IntKind.wrap_u32]; omega
  have v2 : IntKind.u32.wrap (w32 (Bs s) 16 : Int) = (w32 (Bs s) 16 : Int) := by rw [IntKind.wrap_u32]; omega
  have v3 : IntKind.i64.wrap (w16 (Bs s 4) (Bs s 5) : Int) = (w16 (Bs s 4) (Bs s 5) : Int) := wraps_i64 _ (by omega) (by omega)
  have v4 : IntKind.i64.wrap (w16 (Bs s 6) (Bs s 7) : Int) = (w16 (Bs s 6) (Bs s 7) : Int) := wraps_i64 _ (by omega) (by omega)
  have v5 : IntKind.i64.wrap (w16 (Bs s 2) (Bs s 3) : Int) = (w16 (Bs s 2) (Bs s 3) : Int) := wraps_i64 _ (by omega) (by omega)
  have v6 : IntKind.i64.wrap (w16 (Bs s 10) (Bs s 11) : Int) = (w16 (Bs s 10) (Bs s 11) : Int) := wraps_i64 _ (by omega) (by omega)
  have v8 : IntKind.i64.wrap ((Bs s 8).toNat : Int) = ((Bs s 8).toNat : Int) := wraps_i64 _ (by omega) (by omega)
  have v9 : IntKind.i64.wrap ((Bs s 9).toNat : Int) = ((Bs s 9).toNat : Int) := wraps_i64 _ (by omega) (by omega)
  have v10 : IntKind.i64.wrap (F : Int) = (F : Int) := wraps_i64 _ (by omega) (by omega)
  have v11 : IntKind.i64.wrap (65535 - (F : Int)) = 65535 - (F : Int) := wraps_i64 _ (by omega) (by omega)
  generalize w32 (Bs s) 12 = SR at *
  generalize w32 (Bs s) 16 = DS at *
  generalize w16 (Bs s 6) (Bs s 7) = O at *
  generalize w16 (Bs s 4) (Bs s 5) = ID at *
  generalize w16 (Bs s 2) (Bs s 3) = T2 at *
  generalize w16 (Bs s 10) (Bs s 11) = T10 at *
  generalize hs (Bs s) = TS at *
  generalize s.extract 6 8 = E6 at *
  generalize s.extract 4 6 = E4 at *
  generalize s.extract 2 4 = E2 at *
  generalize s.extract 10 12 = E10 at *
  generalize s.extract 12 16 = E12 at *
  generalize s.extract 16 20 = E16 at *
  generalize s.extract 20 s.size = EB at *
  generalize s.extract 0 10 ++ s.extract 12 20 = EQ at *
  generalize s.extract 0 10 = E0 at *
  generalize s.extract 12 20 = EE at *
  have HU24 := Lib.hid Try.underlying24
  go_enter Try.func13, Try.ntmps13
  go_wp2_with fail
  refine (N6.out _).mono ?_; rintro e w1 ⟨rfl, kd, rfl⟩
  go_wp2
  go_cut [5] from 16 to 46 (fun s5 wx => s5 = .pointer (some ⟨w.heap.size + 1, 0, none⟩) ∧ RSt w s wx)
  case first =>
    refine wp_region_any (by kernel_rfl) ?_
    change wpAny _ _ _ _ _ _ _ (World.drew _)
    refine takeA (i := 0) (d := some 16) (v := ?_) rfl rfl (by kernel_rfl) (by kernel_rfl) (by kernel_rfl) (fun _ _ _ h => h) (Or.inl ⟨by rfl, ?_⟩) ?_
    rotate_left
    · intro w'; go_simp; try with_reducible rfl
    simp only [Act.put, List.setIfInBounds_toArray, List.set_cons_zero, List.set_cons_succ]
    refine takeA (i := 1) (d := some 17) (v := ?_) rfl rfl (by kernel_rfl) (by kernel_rfl) (by kernel_rfl) (fun _ _ _ h => h) (Or.inl ⟨by rfl, ?_⟩) ?_
    rotate_left
    · intro w'; go_simp; try with_reducible rfl
    simp only [Act.put, List.setIfInBounds_toArray, List.set_cons_zero, List.set_cons_succ]
    refine takeA (i := 4) (d := some 20) (v := ?_) rfl rfl (by kernel_rfl) (by kernel_rfl) (by kernel_rfl) (fun _ _ _ h => h) (Or.inl ⟨by rfl, ?_⟩) ?_
    rotate_left
    · intro w'; go_simp; try with_reducible rfl
    simp only [Act.put, List.setIfInBounds_toArray, List.set_cons_zero, List.set_cons_succ]
    refine takeA (i := 5) (d := some 21) (v := ?_) rfl rfl (by kernel_rfl) (by kernel_rfl) (by kernel_rfl) (fun _ _ _ h => h) (Or.inl ⟨by rfl, ?_⟩) ?_
    rotate_left
    · intro w'; go_simp; try with_reducible rfl
    simp only [Act.put, List.setIfInBounds_toArray, List.set_cons_zero, List.set_cons_succ]
    refine takeA (i := 8) (d := some 24) (v := ?_) rfl rfl (by kernel_rfl) (by kernel_rfl) (by kernel_rfl) (fun _ _ _ h => h) (Or.inl ⟨by rfl, ?_⟩) ?_
    rotate_left
    · intro w'; go_simp; try with_reducible rfl
    simp only [Act.put, List.setIfInBounds_toArray, List.set_cons_zero, List.set_cons_succ]
    refine takeA (i := 9) (d := some 25) (v := ?_) rfl rfl (by kernel_rfl) (by kernel_rfl) (by kernel_rfl) (fun _ _ _ h => h) (Or.inl ⟨by rfl, ?_⟩) ?_
    rotate_left
    · intro w'; go_simp; try with_reducible rfl
    simp only [Act.put, List.setIfInBounds_toArray, List.set_cons_zero, List.set_cons_succ]
    refine takeA (i := 10) (d := some 26) (v := ?_) rfl rfl (by kernel_rfl) (by kernel_rfl) (by kernel_rfl) (fun _ _ _ h => h) (Or.inl ⟨by rfl, ?_⟩) ?_
    rotate_left
    · intro w'; go_simp; try with_reducible rfl
    simp only [Act.put, List.setIfInBounds_toArray, List.set_cons_zero, List.set_cons_succ]
    refine takeA (i := 11) (d := some 27) (v := ?_) rfl rfl (by kernel_rfl) (by kernel_rfl) (by kernel_rfl) (fun _ _ _ h => h) (Or.inl ⟨by rfl, ?_⟩) ?_
    rotate_left
    · intro w'; go_simp; try with_reducible rfl
    simp only [Act.put, List.setIfInBounds_toArray, List.set_cons_zero, List.set_cons_succ]
    refine takeA (i := 12) (d := some 28) (v := ?_) rfl rfl (by kernel_rfl) (by kernel_rfl) (by kernel_rfl) (fun _ _ _ h => h) (Or.inl ⟨by rfl, ?_⟩) ?_
    rotate_left
    · intro w'; go_simp; try with_reducible rfl
    simp only [Act.put, List.setIfInBounds_toArray, List.set_cons_zero, List.set_cons_succ]
    refine takeA (i := 13) (d := some 29) (v := ?_) rfl rfl (by kernel_rfl) (by kernel_rfl) (by kernel_rfl) (fun _ _ _ h => h) (Or.inl ⟨by rfl, ?_⟩) ?_
    rotate_left
    · intro w'; go_simp; try with_reducible rfl
    simp only [Act.put, List.setIfInBounds_toArray, List.set_cons_zero, List.set_cons_succ]
    refine takeA (i := 14) (d := some 30) (v := ?_) rfl rfl (by kernel_rfl) (by kernel_rfl) (by kernel_rfl) (fun _ _ _ h => h) (Or.inl ⟨by rfl, ?_⟩) ?_
    rotate_left
    · intro w'; go_simp; try with_reducible rfl
    simp only [Act.put, List.setIfInBounds_toArray, List.set_cons_zero, List.set_cons_succ]
    refine takeA (i := 15) (d := some 31) (v := ?_) rfl rfl (by kernel_rfl) (by kernel_rfl) (by kernel_rfl) (fun _ _ _ h => h) (Or.inl ⟨by rfl, ?_⟩) ?_
    rotate_left
    · intro w'; go_simp; try with_reducible rfl
    simp only [Act.put, List.setIfInBounds_toArray, List.set_cons_zero, List.set_cons_succ]
    refine takeA (i := 18) (d := some 34) (v := ?_) rfl rfl (by kernel_rfl) (by kernel_rfl) (by kernel_rfl) (fun _ _ _ h => h) (Or.inl ⟨by rfl, ?_⟩) ?_
    rotate_left
    · intro w'; go_simp; try with_reducible rfl
    simp only [Act.put, List.setIfInBounds_toArray, List.set_cons_zero, List.set_cons_succ]
    refine takeA (i := 19) (d := some 35) (v := ?_) rfl rfl (by kernel_rfl) (by kernel_rfl) (by kernel_rfl) (fun _ _ _ h => h) (Or.inl ⟨by rfl, ?_⟩) ?_
    rotate_left
    · intro w'; go_simp; try with_reducible rfl
    simp only [Act.put, List.setIfInBounds_toArray, List.set_cons_zero, List.set_cons_succ]
    refine takeA (i := 20) (d := some 36) (v := ?_) rfl rfl (by kernel_rfl) (by kernel_rfl) (by kernel_rfl) (fun _ _ _ h => h) (Or.inl ⟨by rfl, ?_⟩) ?_
    rotate_left
    · intro w'; go_simp; try with_reducible rfl
    simp only [Act.put, List.setIfInBounds_toArray, List.set_cons_zero, List.set_cons_succ]
    refine takeA (i := 21) (d := some 37) (v := ?_) rfl rfl (by kernel_rfl) (by kernel_rfl) (by kernel_rfl) (fun _ _ _ h => h) (Or.inl ⟨by rfl, ?_⟩) ?_
    rotate_left
    · intro w'; go_simp; try with_reducible rfl
    simp only [Act.put, List.setIfInBounds_toArray, List.set_cons_zero, List.set_cons_succ]
    refine takeA (i := 22) (d := some 38) (v := ?_) rfl rfl (by kernel_rfl) (by kernel_rfl) (by kernel_rfl) (fun _ _ _ h => h) (Or.inl ⟨by rfl, ?_⟩) ?_
    rotate_left
    · intro w'; go_simp; try with_reducible rfl
    simp only [Act.put, List.setIfInBounds_toArray, List.set_cons_zero, List.set_cons_succ]
    refine takeA (i := 23) (d := some 39) (v := ?_) rfl rfl (by kernel_rfl) (by kernel_rfl) (by kernel_rfl) (fun _ _ _ h => h) (Or.inl ⟨by rfl, ?_⟩) ?_
    rotate_left
    · intro w'; go_simp; try with_reducible rfl
    simp only [Act.put, List.setIfInBounds_toArray, List.set_cons_zero, List.set_cons_succ]
    refine takeA (i := 24) (d := some 40) (v := ?_) rfl rfl (by kernel_rfl) (by kernel_rfl) (by kernel_rfl) (fun _ _ _ h => h) (Or.inl ⟨by rfl, ?_⟩) ?_
    rotate_left
    · intro w'; go_simp; try with_reducible rfl
    simp only [Act.put, List.setIfInBounds_toArray, List.set_cons_zero, List.set_cons_succ]
    refine takeA (i := 25) (d := some 41) (v := ?_) rfl rfl (by kernel_rfl) (by kernel_rfl) (by kernel_rfl) (fun _ _ _ h => h) (Or.inl ⟨by rfl, ?_⟩) ?_
    rotate_left
    · intro w'; go_simp; try with_reducible rfl
    simp only [Act.put, List.setIfInBounds_toArray, List.set_cons_zero, List.set_cons_succ]
    refine takeA (i := 26) (d := some 42) (v := ?_) rfl rfl (by kernel_rfl) (by kernel_rfl) (by kernel_rfl) (fun _ _ _ h => h) (Or.inl ⟨by rfl, ?_⟩) ?_
    rotate_left
    · intro w'; go_simp; try with_reducible rfl
    simp only [Act.put, List.setIfInBounds_toArray, List.set_cons_zero, List.set_cons_succ]
    refine takeA (i := 27) (d := some 43) (v := ?_) rfl rfl (by kernel_rfl) (by kernel_rfl) (by kernel_rfl) (fun _ _ _ h => h) (Or.inl ⟨by rfl, ?_⟩) ?_
    rotate_left
    · intro w'; go_simp; try with_reducible rfl
    simp only [Act.put, List.setIfInBounds_toArray, List.set_cons_zero, List.set_cons_succ]
    refine takeA (i := 28) (d := some 44) (v := ?_) rfl rfl (by kernel_rfl) (by kernel_rfl) (by kernel_rfl) (fun _ _ _ h => h) (Or.inl ⟨by rfl, ?_⟩) ?_
    rotate_left
    · intro w'; go_simp; try with_reducible rfl
    simp only [Act.put, List.setIfInBounds_toArray, List.set_cons_zero, List.set_cons_succ]
    refine takeA (i := 29) (d := some 45) (v := ?_) rfl rfl (by kernel_rfl) (by kernel_rfl) (by kernel_rfl) (fun _ _ _ h => h) (Or.inl ⟨by rfl, ?_⟩) ?_
    rotate_left
    · intro w'; go_simp; try with_reducible rfl
    simp only [Act.put, List.setIfInBounds_toArray, List.set_cons_zero, List.set_cons_succ]
    refine wpAny_ready (rs := [2, 31]) (by kernel_rfl) (by simp) ?_
    refine AllReady.cons rfl (fun K hK => ?_) (AllReady.cons rfl (fun K hK => ?_) AllReady.nil)
    · go_simp
      refine (N12.out _).mono ?_; rintro e w2 ⟨rfl, k2, rfl⟩
      refine hK _ _ ?_
      clear hK K
      try simp only [Act.put, List.setIfInBounds_toArray, List.set_cons_zero, List.set_cons_succ]
      refine takeA (i := 3) (d := some 19) (v := ?_) rfl rfl (by kernel_rfl) (by kernel_rfl) (by kernel_rfl) (fun _ _ _ h => h) (Or.inl ⟨by rfl, ?_⟩) ?_
      rotate_left
      · intro w'; go_simp; try with_reducible rfl
      simp only [Act.put, List.setIfInBounds_toArray, List.set_cons_zero, List.set_cons_succ]
      refine wpAny_ready (rs := [6, 31]) (by kernel_rfl) (by simp) ?_
      refine AllReady.cons rfl (fun K hK => ?_) (AllReady.cons rfl (fun K hK => ?_) AllReady.nil)
      · go_simp
        refine (N16.out _).mono ?_; rintro e w6 ⟨rfl, k6, rfl⟩
        refine hK _ _ ?_
        clear hK K
        try simp only [Act.put, List.setIfInBounds_toArray, List.set_cons_zero, List.set_cons_succ]
        refine takeA (i := 7) (d := some 23) (v := ?_) rfl rfl (by kernel_rfl) (by kernel_rfl) (by kernel_rfl) (fun _ _ _ h => h) (Or.inl ⟨by rfl, ?_⟩) ?_
        rotate_left
        · intro w'; go_simp; try with_reducible rfl
        simp only [Act.put, List.setIfInBounds_toArray, List.set_cons_zero, List.set_cons_succ]
        refine wpAny_ready (rs := [16, 31]) (by kernel_rfl) (by simp) ?_
        refine AllReady.cons rfl (fun K hK => ?_) (AllReady.cons rfl (fun K hK => ?_) AllReady.nil)
        · go_simp
          refine (N4.out _).mono ?_; rintro e w16 ⟨rfl, k16, rfl⟩
          refine hK _ _ ?_
          clear hK K
          try simp only [Act.put, List.setIfInBounds_toArray, List.set_cons_zero, List.set_cons_succ]
          refine takeA (i := 17) (d := some 33) (v := ?_) rfl rfl (by kernel_rfl) (by kernel_rfl) (by kernel_rfl) (fun _ _ _ h => h) (Or.inl ⟨by rfl, ?_⟩) ?_
          rotate_left
          · intro w'; go_simp; try with_reducible rfl
          simp only [Act.put, List.setIfInBounds_toArray, List.set_cons_zero, List.set_cons_succ]
          refine takeA (i := 30) (d := some 46) (v := ?_) rfl rfl (by kernel_rfl) (by kernel_rfl) (by kernel_rfl) (fun _ _ _ h => h) (Or.inl ⟨by rfl, ?_⟩) ?_
          rotate_left
          · intro w'; go_simp; try with_reducible rfl
          simp only [Act.put, List.setIfInBounds_toArray, List.set_cons_zero, List.set_cons_succ]
          refine wpAny_ready (rs := [31]) (by kernel_rfl) (by simp) ?_
          refine AllReady.cons rfl (fun K hK => ?_) AllReady.nil
          go_simp
          refine hK _ _ ?_
          clear hK K
          try simp only [Act.put, List.setIfInBounds_toArray, List.set_cons_zero, List.set_cons_succ]
          refine wpAny_ready (rs := [32]) (by kernel_rfl) (by simp) ?_
          refine AllReady.cons rfl (fun K hK => ?_) AllReady.nil
          go_simp
          refine hK _ _ ?_
          clear hK K
          try simp only [Act.put, List.setIfInBounds_toArray, List.set_cons_zero, List.set_cons_succ]
          refine wpAny_done (by kernel_rfl) ?_ _
          go_wp2
          go_meet
          exact ⟨rfl, ⟨HNew.out.zero, HNew.out.pack, ⟨HNew.out.bel.os, HNew.out.bel.tape, HNew.out.bel.output, HNew.out.bel.size, HNew.out.bel.block⟩⟩⟩
        · go_simp
          refine hK _ _ ?_
          clear hK K
          try simp only [Act.put, List.setIfInBounds_toArray, List.set_cons_zero, List.set_cons_succ]
          refine wpAny_ready (rs := [16]) (by kernel_rfl) (by simp) ?_
          refine AllReady.cons rfl (fun K hK => ?_) AllReady.nil
          go_simp
          refine (N4.out _).mono ?_
          rintro e w16 ⟨rfl, k16, rfl⟩
          refine hK _ _ ?_
          clear hK K
          try simp only [Act.put, List.setIfInBounds_toArray, List.set_cons_zero, List.set_cons_succ]
          refine takeA (i := 17) (d := some 33) (v := ?_) rfl rfl (by kernel_rfl) (by kernel_rfl) (by kernel_rfl) (fun _ _ _ h => h) (Or.inl ⟨by rfl, ?_⟩) ?_
          rotate_left
          · intro w'; go_simp; try with_reducible rfl
          simp only [Act.put, List.setIfInBounds_toArray, List.set_cons_zero, List.set_cons_succ]
          refine takeA (i := 30) (d := some 46) (v := ?_) rfl rfl (by kernel_rfl) (by kernel_rfl) (by kernel_rfl) (fun _ _ _ h => h) (Or.inl ⟨by rfl, ?_⟩) ?_
          rotate_left
          · intro w'; go_simp; try with_reducible rfl
          simp only [Act.put, List.setIfInBounds_toArray, List.set_cons_zero, List.set_cons_succ]
          refine wpAny_ready (rs := [32]) (by kernel_rfl) (by simp) ?_
          refine AllReady.cons rfl (fun K hK => ?_) AllReady.nil
          go_simp
          refine hK _ _ ?_
          clear hK K
          try simp only [Act.put, List.setIfInBounds_toArray, List.set_cons_zero, List.set_cons_succ]
          refine wpAny_done (by kernel_rfl) ?_ _
          go_wp2
          go_meet
          exact ⟨rfl, RSt.chain w s _ (RSt.base w _ _) _ _ _ _ _ _ _ _ _ HRP.out⟩
      · go_simp
        refine hK _ _ ?_
        clear hK K
        try simp only [Act.put, List.setIfInBounds_toArray, List.set_cons_zero, List.set_cons_succ]
        refine wpAny_ready (rs := [6]) (by kernel_rfl) (by simp) ?_
        refine AllReady.cons rfl (fun K hK => ?_) AllReady.nil
        go_simp
        refine (N16.out _).mono ?_
        rintro e w6 ⟨rfl, k6, rfl⟩
        refine hK _ _ ?_
        clear hK K
        try simp only [Act.put, List.setIfInBounds_toArray, List.set_cons_zero, List.set_cons_succ]
        refine takeA (i := 7) (d := some 23) (v := ?_) rfl rfl (by kernel_rfl) (by kernel_rfl) (by kernel_rfl) (fun _ _ _ h => h) (Or.inl ⟨by rfl, ?_⟩) ?_
        rotate_left
        · intro w'; go_simp; try with_reducible rfl
        simp only [Act.put, List.setIfInBounds_toArray, List.set_cons_zero, List.set_cons_succ]
        refine wpAny_ready (rs := [16]) (by kernel_rfl) (by simp) ?_
        refine AllReady.cons rfl (fun K hK => ?_) AllReady.nil
        go_simp
        refine (N4.out _).mono ?_
        rintro e w16 ⟨rfl, k16, rfl⟩
        refine hK _ _ ?_
        clear hK K
        try simp only [Act.put, List.setIfInBounds_toArray, List.set_cons_zero, List.set_cons_succ]
        refine takeA (i := 17) (d := some 33) (v := ?_) rfl rfl (by kernel_rfl) (by kernel_rfl) (by kernel_rfl) (fun _ _ _ h => h) (Or.inl ⟨by rfl, ?_⟩) ?_
        rotate_left
        · intro w'; go_simp; try with_reducible rfl
        simp only [Act.put, List.setIfInBounds_toArray, List.set_cons_zero, List.set_cons_succ]
        refine takeA (i := 30) (d := some 46) (v := ?_) rfl rfl (by kernel_rfl) (by kernel_rfl) (by kernel_rfl) (fun _ _ _ h => h) (Or.inl ⟨by rfl, ?_⟩) ?_
        rotate_left
        · intro w'; go_simp; try with_reducible rfl
        simp only [Act.put, List.setIfInBounds_toArray, List.set_cons_zero, List.set_cons_succ]
        refine wpAny_ready (rs := [32]) (by kernel_rfl) (by simp) ?_
        refine AllReady.cons rfl (fun K hK => ?_) AllReady.nil
        go_simp
        refine hK _ _ ?_
        clear hK K
        try simp only [Act.put, List.setIfInBounds_toArray, List.set_cons_zero, List.set_cons_succ]
        refine wpAny_done (by kernel_rfl) ?_ _
        go_wp2
        go_meet
        exact ⟨rfl, RSt.chain w s _ (RSt.base w _ _) _ _ _ _ _ _ _ _ _ HRP.out⟩
    · go_simp
      refine hK _ _ ?_
      clear hK K
      try simp only [Act.put, List.setIfInBounds_toArray, List.set_cons_zero, List.set_cons_succ]
      refine wpAny_ready (rs := [2]) (by kernel_rfl) (by simp) ?_
      refine AllReady.cons rfl (fun K hK => ?_) AllReady.nil
      go_simp
      refine (N12.out _).mono ?_
      rintro e w2 ⟨rfl, k2, rfl⟩
      refine hK _ _ ?_
      clear hK K
      try simp only [Act.put, List.setIfInBounds_toArray, List.set_cons_zero, List.set_cons_succ]
      refine takeA (i := 3) (d := some 19) (v := ?_) rfl rfl (by kernel_rfl) (by kernel_rfl) (by kernel_rfl) (fun _ _ _ h => h) (Or.inl ⟨by rfl, ?_⟩) ?_
      rotate_left
      · intro w'; go_simp; try with_reducible rfl
      simp only [Act.put, List.setIfInBounds_toArray, List.set_cons_zero, List.set_cons_succ]
      refine wpAny_ready (rs := [6]) (by kernel_rfl) (by simp) ?_
      refine AllReady.cons rfl (fun K hK => ?_) AllReady.nil
      go_simp
      refine (N16.out _).mono ?_
      rintro e w6 ⟨rfl, k6, rfl⟩
      refine hK _ _ ?_
      clear hK K
      try simp only [Act.put, List.setIfInBounds_toArray, List.set_cons_zero, List.set_cons_succ]
      refine takeA (i := 7) (d := some 23) (v := ?_) rfl rfl (by kernel_rfl) (by kernel_rfl) (by kernel_rfl) (fun _ _ _ h => h) (Or.inl ⟨by rfl, ?_⟩) ?_
      rotate_left
      · intro w'; go_simp; try with_reducible rfl
      simp only [Act.put, List.setIfInBounds_toArray, List.set_cons_zero, List.set_cons_succ]
      refine wpAny_ready (rs := [16]) (by kernel_rfl) (by simp) ?_
      refine AllReady.cons rfl (fun K hK => ?_) AllReady.nil
      go_simp
      refine (N4.out _).mono ?_
      rintro e w16 ⟨rfl, k16, rfl⟩
      refine hK _ _ ?_
      clear hK K
      try simp only [Act.put, List.setIfInBounds_toArray, List.set_cons_zero, List.set_cons_succ]
      refine takeA (i := 17) (d := some 33) (v := ?_) rfl rfl (by kernel_rfl) (by kernel_rfl) (by kernel_rfl) (fun _ _ _ h => h) (Or.inl ⟨by rfl, ?_⟩) ?_
      rotate_left
      · intro w'; go_simp; try with_reducible rfl
      simp only [Act.put, List.setIfInBounds_toArray, List.set_cons_zero, List.set_cons_succ]
      refine takeA (i := 30) (d := some 46) (v := ?_) rfl rfl (by kernel_rfl) (by kernel_rfl) (by kernel_rfl) (fun _ _ _ h => h) (Or.inl ⟨by rfl, ?_⟩) ?_
      rotate_left
      · intro w'; go_simp; try with_reducible rfl
      simp only [Act.put, List.setIfInBounds_toArray, List.set_cons_zero, List.set_cons_succ]
      refine wpAny_ready (rs := [32]) (by kernel_rfl) (by simp) ?_
      refine AllReady.cons rfl (fun K hK => ?_) AllReady.nil
      go_simp
      refine hK _ _ ?_
      clear hK K
      try simp only [Act.put, List.setIfInBounds_toArray, List.set_cons_zero, List.set_cons_succ]
      refine wpAny_done (by kernel_rfl) ?_ _
      go_wp2
      go_meet
      exact ⟨rfl, RSt.chain w s _ (RSt.base w _ _) _ _ _ _ _ _ _ _ _ HRP.out⟩
  case rest =>
    obtain ⟨rfl, S1⟩ := hcut
    have T1 := Lib.hid S1
    clear S1 HNew
    by_cases c0 : (Bs s 0).toNat = 69
    rotate_left
    · have d0 : (((Bs s 0).toNat : Int) != 69) = true := by simp; omega
      go_wp2_with (refine wpList_store_mid rfl _ _ _ rfl _ _ (pc pz) rfl rfl T1.out.zero.there info24 (pc_one pz) ?_)
      have hx := HX.out 6 (by rw [HFl.out]; rw [if_pos c0]) (by decide)
      exact bodyPost_ret (v := .tuple #[pv pz, .int .i64 6]) (by simp [results, Try.results13, Act.put, asAddr, told wc w.heap.size pz pz T1.out.zero]) rfl ⟨by rw [hx.1, hx.2], below_setCells T1.out.bel (Nat.le_refl _) _ _⟩
    have d0 : (((Bs s 0).toNat : Int) != 69) = false := by simp; omega
    have C0 := Lib.hid c0
    clear c0
    by_cases c1 : (Bs s 1).toNat = 0
    rotate_left
    · have d1 : (((Bs s 1).toNat : Int) != 0) = true := by simp; omega
      go_wp2_with (refine wpList_store_mid rfl _ _ _ rfl _ _ (pc pz) rfl rfl T1.out.zero.there info24 (pc_one pz) ?_)
      have hx := HX.out 4 (by rw [HFl.out]; rw [if_neg (by have := C0.out; omega), if_pos (Or.inl c1)]) (by decide)
      exact bodyPost_ret (v := .tuple #[pv pz, .int .i64 4]) (by simp [results, Try.results13, Act.put, asAddr, told wc w.heap.size pz pz T1.out.zero]) rfl ⟨by rw [hx.1, hx.2], below_setCells T1.out.bel (Nat.le_refl _) _ _⟩
    have d1 : (((Bs s 1).toNat : Int) != 0) = false := by simp; omega
    have C1 := Lib.hid c1
    clear c1
    by_cases c2 : 32768 ≤ O
    · have d2 : (32768 : Int) ≤ (O : Int) := by omega
      go_wp2_with (refine wpList_store_mid rfl _ _ _ rfl _ _ (pc pz) rfl rfl T1.out.zero.there info24 (pc_one pz) ?_)
      have hx := HX.out 4 (by rw [HFl.out]; rw [if_neg (by have := C0.out; omega), if_pos (Or.inr c2)]) (by decide)
      exact bodyPost_ret (v := .tuple #[pv pz, .int .i64 4]) (by simp [results, Try.results13, Act.put, asAddr, told wc w.heap.size pz pz T1.out.zero]) rfl ⟨by rw [hx.1, hx.2], below_setCells T1.out.bel (Nat.le_refl _) _ _⟩
    have d2 : ¬ (32768 : Int) ≤ (O : Int) := by omega
    by_cases c3 : s.size < T2
    · have d3 : (s.size : Int) < T2 := by omega
      go_wp2_with fail
      refine (N2.out _).mono ?_; rintro e w2 ⟨rfl, k2, rfl⟩
      have T2' := Lib.hid (T1.out.drewN k2)
      go_wp2_with (refine wpList_store_mid rfl _ _ _ rfl _ _ (pc pz) rfl rfl T2'.out.zero.there info24 (pc_one pz) ?_)
      have hx := HX.out 3 (by rw [HFl.out]; rw [if_neg (by have := C0.out; omega), if_neg (by have := C1.out; omega), if_pos c3]) (by decide)
      exact bodyPost_ret (v := .tuple #[pv pz, .int .i64 3]) (by simp [results, Try.results13, Act.put, asAddr, told (wc.drewN k2) w.heap.size pz pz T2'.out.zero]) rfl ⟨by rw [hx.1, hx.2], below_setCells T2'.out.bel (Nat.le_refl _) _ _⟩
    have d3 : ¬ (s.size : Int) < T2 := by omega
    by_cases c4 : T2 < s.size
    · have d4 : (T2 : Int) < s.size := by omega
      go_wp2_with fail
      refine (N2.out _).mono ?_; rintro e w2 ⟨rfl, k2, rfl⟩
      have T2' := Lib.hid (T1.out.drewN k2)
      go_wp2_with (refine wpList_store_mid rfl _ _ _ rfl _ _ (pc pz) rfl rfl T2'.out.zero.there info24 (pc_one pz) ?_)
      have hx := HX.out 4 (by rw [HFl.out]; rw [if_neg (by have := C0.out; omega), if_neg (by have := C1.out; omega), if_neg c3, if_pos c4]) (by decide)
      exact bodyPost_ret (v := .tuple #[pv pz, .int .i64 4]) (by simp [results, Try.results13, Act.put, asAddr, told (wc.drewN k2) w.heap.size pz pz T2'.out.zero]) rfl ⟨by rw [hx.1, hx.2], below_setCells T2'.out.bel (Nat.le_refl _) _ _⟩
    have d4 : ¬ (T2 : Int) < s.size := by omega
    by_cases c5 : T10 = TS
    rotate_left
    · have d5 : ((T10 : Int) != 65535 - (F : Int)) = true := by have := HSF.out; simp; omega
      go_wp2_with fail
      refine (N2.out _).mono ?_; rintro e w2 ⟨rfl, k2, rfl⟩
      have T2' := Lib.hid (T1.out.drewN k2)
      go_wp2
      refine wp_region_any (by kernel_rfl) ?_
      change wpAny _ _ _ _ _ _ _ (World.drew _)
      refine takeA (i := 0) (d := some 73) (v := ?_) rfl rfl (by kernel_rfl) (by kernel_rfl) (by kernel_rfl) (fun _ _ _ h => h) (Or.inl ⟨by rfl, ?_⟩) ?_
      rotate_left
      · intro w'; go_simp; try with_reducible rfl
      simp only [Act.put, List.setIfInBounds_toArray, List.set_cons_zero, List.set_cons_succ]
      refine takeA (i := 1) (d := some 74) (v := ?_) rfl rfl (by kernel_rfl) (by kernel_rfl) (by kernel_rfl) (fun _ _ _ h => h) (Or.inl ⟨by rfl, ?_⟩) ?_
      rotate_left
      · intro w'; go_simp; try with_reducible rfl
      simp only [Act.put, List.setIfInBounds_toArray, List.set_cons_zero, List.set_cons_succ]
      refine takeA (i := 4) (d := some 77) (v := ?_) rfl rfl (by kernel_rfl) (by kernel_rfl) (by kernel_rfl) (fun _ _ _ h => h) (Or.inl ⟨by rfl, ?_⟩) ?_
      rotate_left
      · intro w'; go_simp; try with_reducible rfl
      simp only [Act.put, List.setIfInBounds_toArray, List.set_cons_zero, List.set_cons_succ]
      refine takeA (i := 5) (d := some 78) (v := ?_) rfl rfl (by kernel_rfl) (by kernel_rfl) (by kernel_rfl) (fun _ _ _ h => h) (Or.inl ⟨by rfl, ?_⟩) ?_
      rotate_left
      · intro w'; go_simp; try with_reducible rfl
      simp only [Act.put, List.setIfInBounds_toArray, List.set_cons_zero, List.set_cons_succ]
      refine takeA (i := 6) (d := some 79) (v := ?_) rfl rfl (by kernel_rfl) (by kernel_rfl) (by kernel_rfl) (fun _ _ _ h => h) (Or.inl ⟨by rfl, ?_⟩) ?_
      rotate_left
      · intro w'; go_simp; try with_reducible rfl
      simp only [Act.put, List.setIfInBounds_toArray, List.set_cons_zero, List.set_cons_succ]
      refine takeA (i := 7) (d := some 80) (v := ?_) rfl rfl (by kernel_rfl) (by kernel_rfl) (by kernel_rfl) (fun _ _ _ h => h) (Or.inl ⟨by rfl, ?_⟩) ?_
      rotate_left
      · intro w'; go_simp; try with_reducible rfl
      simp only [Act.put, List.setIfInBounds_toArray, List.set_cons_zero, List.set_cons_succ]
      refine takeA (i := 8) (d := some 81) (v := ?_) rfl rfl (by kernel_rfl) (by kernel_rfl) (by kernel_rfl) (fun _ _ _ h => h) (Or.inl ⟨by rfl, ?_⟩) ?_
      rotate_left
      · intro w'; go_simp; try with_reducible rfl
      simp only [Act.put, List.setIfInBounds_toArray, List.set_cons_zero, List.set_cons_succ]
      refine wpAny_ready (rs := [2]) (by kernel_rfl) (by simp) ?_
      refine AllReady.cons rfl (fun K hK => ?_) AllReady.nil
      go_simp
      refine (N10.out _).mono ?_
      rintro e w3 ⟨rfl, k3, rfl⟩
      refine hK _ _ ?_
      clear hK K
      try simp only [Act.put, List.setIfInBounds_toArray, List.set_cons_zero, List.set_cons_succ]
      refine takeA (i := 3) (d := some 76) (v := ?_) rfl rfl (by kernel_rfl) (by kernel_rfl) (by kernel_rfl) (fun _ _ _ h => h) (Or.inl ⟨by rfl, ?_⟩) ?_
      rotate_left
      · intro w'; go_simp; try with_reducible rfl
      simp only [Act.put, List.setIfInBounds_toArray, List.set_cons_zero, List.set_cons_succ]
      refine wpAny_ready (rs := [9]) (by kernel_rfl) (by simp) ?_
      refine AllReady.cons rfl (fun K hK => ?_) AllReady.nil
      go_simp
      refine (HQ.out _).mono ?_
      rintro e w4 ⟨rfl, hb4⟩
      have T4 := Lib.hid ((T1.out.drewN (k2 + 1 + k3)).keep hb4)
      refine hK _ _ ?_
      clear hK K
      try simp only [Act.put, List.setIfInBounds_toArray, List.set_cons_zero, List.set_cons_succ]
      refine takeA (i := 10) (d := some 83) (v := ?_) rfl rfl (by kernel_rfl) (by kernel_rfl) (by kernel_rfl) (fun _ _ _ h => h) (Or.inl ⟨by rfl, ?_⟩) ?_
      rotate_left
      · intro w'; go_simp; try with_reducible rfl
      simp only [Act.put, List.setIfInBounds_toArray, List.set_cons_zero, List.set_cons_succ]
      refine takeA (i := 11) (d := some 84) (v := ?_) rfl rfl (by kernel_rfl) (by kernel_rfl) (by kernel_rfl) (fun _ _ _ h => h) (Or.inl ⟨by rfl, ?_⟩) ?_
      rotate_left
      · intro w'; go_simp; try with_reducible rfl
      simp only [Act.put, List.setIfInBounds_toArray, List.set_cons_zero, List.set_cons_succ]
      refine takeA (i := 12) (d := some 85) (v := ?_) rfl rfl (by kernel_rfl) (by kernel_rfl) (by kernel_rfl) (fun _ _ _ h => h) (Or.inl ⟨by rfl, ?_⟩) ?_
      rotate_left
      · intro w'; go_simp; try with_reducible rfl
      simp only [Act.put, List.setIfInBounds_toArray, List.set_cons_zero, List.set_cons_succ]
      refine wpAny_done (by kernel_rfl) ?_ _
      go_wp2_with (refine wpList_store_mid rfl _ _ _ rfl _ _ (pc pz) rfl rfl T4.out.zero.there info24 (pc_one pz) ?_)
      have hx := HX.out 5 (by rw [HFl.out]; rw [if_neg (by have := C0.out; omega), if_neg (by have := C1.out; omega), if_neg c3, if_neg c4, if_pos c5]) (by decide)
      exact bodyPost_ret (v := .tuple #[pv pz, .int .i64 5]) (by simp [results, Try.results13, Act.put, asAddr, told w4 w.heap.size pz pz T4.out.zero]) rfl ⟨by rw [hx.1, hx.2], below_setCells T4.out.bel (Nat.le_refl _) _ _⟩
    have d5 : ((T10 : Int) != 65535 - (F : Int)) = false := by have := HSF.out; simp; omega
    have HZ := Lib.hid (HY.out (by rw [HFl.out]; rw [if_neg (by have := C0.out; omega), if_neg (by have := C1.out; omega), if_neg c3, if_neg c4, if_neg (by omega)]))
    clear c5
    by_cases c6 : chk (rp s) = 0
    rotate_left
    · obtain ⟨C, hC⟩ : ∃ C, C = chk (rp s) := ⟨_, rfl⟩
      rw [← hC] at HK HZ c6
      have d6 : (C != 0) = true := by simpa using c6
      have HC := Lib.hid hC
      clear hC
      go_wp2_with fail
      refine (N2.out _).mono ?_; rintro e w2 ⟨rfl, k2, rfl⟩
      have T2' := Lib.hid (T1.out.drewN k2)
      go_wp2
      refine wp_region_any (by kernel_rfl) ?_
      change wpAny _ _ _ _ _ _ _ (World.drew _)
      refine takeA (i := 0) (d := some 73) (v := ?_) rfl rfl (by kernel_rfl) (by kernel_rfl) (by kernel_rfl) (fun _ _ _ h => h) (Or.inl ⟨by rfl, ?_⟩) ?_
      rotate_left
      · intro w'; go_simp; try with_reducible rfl
      simp only [Act.put, List.setIfInBounds_toArray, List.set_cons_zero, List.set_cons_succ]
      refine takeA (i := 1) (d := some 74) (v := ?_) rfl rfl (by kernel_rfl) (by kernel_rfl) (by kernel_rfl) (fun _ _ _ h => h) (Or.inl ⟨by rfl, ?_⟩) ?_
      rotate_left
      · intro w'; go_simp; try with_reducible rfl
      simp only [Act.put, List.setIfInBounds_toArray, List.set_cons_zero, List.set_cons_succ]
      refine takeA (i := 4) (d := some 77) (v := ?_) rfl rfl (by kernel_rfl) (by kernel_rfl) (by kernel_rfl) (fun _ _ _ h => h) (Or.inl ⟨by rfl, ?_⟩) ?_
      rotate_left
      · intro w'; go_simp; try with_reducible rfl
      simp only [Act.put, List.setIfInBounds_toArray, List.set_cons_zero, List.set_cons_succ]
      refine takeA (i := 5) (d := some 78) (v := ?_) rfl rfl (by kernel_rfl) (by kernel_rfl) (by kernel_rfl) (fun _ _ _ h => h) (Or.inl ⟨by rfl, ?_⟩) ?_
      rotate_left
      · intro w'; go_simp; try with_reducible rfl
      simp only [Act.put, List.setIfInBounds_toArray, List.set_cons_zero, List.set_cons_succ]
      refine takeA (i := 6) (d := some 79) (v := ?_) rfl rfl (by kernel_rfl) (by kernel_rfl) (by kernel_rfl) (fun _ _ _ h => h) (Or.inl ⟨by rfl, ?_⟩) ?_
      rotate_left
      · intro w'; go_simp; try with_reducible rfl
      simp only [Act.put, List.setIfInBounds_toArray, List.set_cons_zero, List.set_cons_succ]
      refine takeA (i := 7) (d := some 80) (v := ?_) rfl rfl (by kernel_rfl) (by kernel_rfl) (by kernel_rfl) (fun _ _ _ h => h) (Or.inl ⟨by rfl, ?_⟩) ?_
      rotate_left
      · intro w'; go_simp; try with_reducible rfl
      simp only [Act.put, List.setIfInBounds_toArray, List.set_cons_zero, List.set_cons_succ]
      refine takeA (i := 8) (d := some 81) (v := ?_) rfl rfl (by kernel_rfl) (by kernel_rfl) (by kernel_rfl) (fun _ _ _ h => h) (Or.inl ⟨by rfl, ?_⟩) ?_
      rotate_left
      · intro w'; go_simp; try with_reducible rfl
      simp only [Act.put, List.setIfInBounds_toArray, List.set_cons_zero, List.set_cons_succ]
      refine wpAny_ready (rs := [2]) (by kernel_rfl) (by simp) ?_
      refine AllReady.cons rfl (fun K hK => ?_) AllReady.nil
      go_simp
      refine (N10.out _).mono ?_
      rintro e w3 ⟨rfl, k3, rfl⟩
      refine hK _ _ ?_
      clear hK K
      try simp only [Act.put, List.setIfInBounds_toArray, List.set_cons_zero, List.set_cons_succ]
      refine takeA (i := 3) (d := some 76) (v := ?_) rfl rfl (by kernel_rfl) (by kernel_rfl) (by kernel_rfl) (fun _ _ _ h => h) (Or.inl ⟨by rfl, ?_⟩) ?_
      rotate_left
      · intro w'; go_simp; try with_reducible rfl
      simp only [Act.put, List.setIfInBounds_toArray, List.set_cons_zero, List.set_cons_succ]
      refine wpAny_ready (rs := [9]) (by kernel_rfl) (by simp) ?_
      refine AllReady.cons rfl (fun K hK => ?_) AllReady.nil
      go_simp
      refine (HQ.out _).mono ?_
      rintro e w4 ⟨rfl, hb4⟩
      have T4 := Lib.hid ((T1.out.drewN (k2 + 1 + k3)).keep hb4)
      refine hK _ _ ?_
      clear hK K
      try simp only [Act.put, List.setIfInBounds_toArray, List.set_cons_zero, List.set_cons_succ]
      refine takeA (i := 10) (d := some 83) (v := ?_) rfl rfl (by kernel_rfl) (by kernel_rfl) (by kernel_rfl) (fun _ _ _ h => h) (Or.inl ⟨by rfl, ?_⟩) ?_
      rotate_left
      · intro w'; go_simp; try with_reducible rfl
      simp only [Act.put, List.setIfInBounds_toArray, List.set_cons_zero, List.set_cons_succ]
      refine takeA (i := 11) (d := some 84) (v := ?_) rfl rfl (by kernel_rfl) (by kernel_rfl) (by kernel_rfl) (fun _ _ _ h => h) (Or.inl ⟨by rfl, ?_⟩) ?_
      rotate_left
      · intro w'; go_simp; try with_reducible rfl
      simp only [Act.put, List.setIfInBounds_toArray, List.set_cons_zero, List.set_cons_succ]
      refine takeA (i := 12) (d := some 85) (v := ?_) rfl rfl (by kernel_rfl) (by kernel_rfl) (by kernel_rfl) (fun _ _ _ h => h) (Or.inl ⟨by rfl, ?_⟩) ?_
      rotate_left
      · intro w'; go_simp; try with_reducible rfl
      simp only [Act.put, List.setIfInBounds_toArray, List.set_cons_zero, List.set_cons_succ]
      refine wpAny_done (by kernel_rfl) ?_ _
      go_wp2_with (refine wpList_load_mid rfl _ _ rfl _ _ rfl (pcl (rp s)) _ T4.out.pack.range HU24.out rfl info24 ?_)
      refine (HK.out _).mono ?_; rintro e w5 ⟨rfl, hb5⟩
      have T5 := Lib.hid (T4.out.keep hb5)
      clear hb5
      go_wp2_with (refine wpList_store_mid rfl _ _ _ rfl _ _ (pc pz) rfl rfl T5.out.zero.there info24 (pc_one pz) ?_)
      have hr : rt s = pz := by unfold rt; rw [HZ.out, if_neg c6]
      exact bodyPost_ret (v := .tuple #[pv pz, .int .i64 C]) (by simp [results, Try.results13, Act.put, asAddr, told w5 w.heap.size pz pz T5.out.zero]) rfl ⟨by rw [hr, HZ.out], below_setCells T5.out.bel (Nat.le_refl _) _ _⟩
    · have HC := Lib.hid c6
      rw [c6] at HK
      clear c6
      go_wp2_with fail
      refine (N2.out _).mono ?_; rintro e w2 ⟨rfl, k2, rfl⟩
      have T2' := Lib.hid (T1.out.drewN k2)
      go_wp2
      refine wp_region_any (by kernel_rfl) ?_
      change wpAny _ _ _ _ _ _ _ (World.drew _)
      refine takeA (i := 0) (d := some 73) (v := ?_) rfl rfl (by kernel_rfl) (by kernel_rfl) (by kernel_rfl) (fun _ _ _ h => h) (Or.inl ⟨by rfl, ?_⟩) ?_
      rotate_left
      · intro w'; go_simp; try with_reducible rfl
      simp only [Act.put, List.setIfInBounds_toArray, List.set_cons_zero, List.set_cons_succ]
      refine takeA (i := 1) (d := some 74) (v := ?_) rfl rfl (by kernel_rfl) (by kernel_rfl) (by kernel_rfl) (fun _ _ _ h => h) (Or.inl ⟨by rfl, ?_⟩) ?_
      rotate_left
      · intro w'; go_simp; try with_reducible rfl
      simp only [Act.put, List.setIfInBounds_toArray, List.set_cons_zero, List.set_cons_succ]
      refine takeA (i := 4) (d := some 77) (v := ?_) rfl rfl (by kernel_rfl) (by kernel_rfl) (by kernel_rfl) (fun _ _ _ h => h) (Or.inl ⟨by rfl, ?_⟩) ?_
      rotate_left
      · intro w'; go_simp; try with_reducible rfl
      simp only [Act.put, List.setIfInBounds_toArray, List.set_cons_zero, List.set_cons_succ]
      refine takeA (i := 5) (d := some 78) (v := ?_) rfl rfl (by kernel_rfl) (by kernel_rfl) (by kernel_rfl) (fun _ _ _ h => h) (Or.inl ⟨by rfl, ?_⟩) ?_
      rotate_left
      · intro w'; go_simp; try with_reducible rfl
      simp only [Act.put, List.setIfInBounds_toArray, List.set_cons_zero, List.set_cons_succ]
      refine takeA (i := 6) (d := some 79) (v := ?_) rfl rfl (by kernel_rfl) (by kernel_rfl) (by kernel_rfl) (fun _ _ _ h => h) (Or.inl ⟨by rfl, ?_⟩) ?_
      rotate_left
      · intro w'; go_simp; try with_reducible rfl
      simp only [Act.put, List.setIfInBounds_toArray, List.set_cons_zero, List.set_cons_succ]
      refine takeA (i := 7) (d := some 80) (v := ?_) rfl rfl (by kernel_rfl) (by kernel_rfl) (by kernel_rfl) (fun _ _ _ h => h) (Or.inl ⟨by rfl, ?_⟩) ?_
      rotate_left
      · intro w'; go_simp; try with_reducible rfl
      simp only [Act.put, List.setIfInBounds_toArray, List.set_cons_zero, List.set_cons_succ]
      refine takeA (i := 8) (d := some 81) (v := ?_) rfl rfl (by kernel_rfl) (by kernel_rfl) (by kernel_rfl) (fun _ _ _ h => h) (Or.inl ⟨by rfl, ?_⟩) ?_
      rotate_left
      · intro w'; go_simp; try with_reducible rfl
      simp only [Act.put, List.setIfInBounds_toArray, List.set_cons_zero, List.set_cons_succ]
      refine wpAny_ready (rs := [2]) (by kernel_rfl) (by simp) ?_
      refine AllReady.cons rfl (fun K hK => ?_) AllReady.nil
      go_simp
      refine (N10.out _).mono ?_
      rintro e w3 ⟨rfl, k3, rfl⟩
      refine hK _ _ ?_
      clear hK K
      try simp only [Act.put, List.setIfInBounds_toArray, List.set_cons_zero, List.set_cons_succ]
      refine takeA (i := 3) (d := some 76) (v := ?_) rfl rfl (by kernel_rfl) (by kernel_rfl) (by kernel_rfl) (fun _ _ _ h => h) (Or.inl ⟨by rfl, ?_⟩) ?_
      rotate_left
      · intro w'; go_simp; try with_reducible rfl
      simp only [Act.put, List.setIfInBounds_toArray, List.set_cons_zero, List.set_cons_succ]
      refine wpAny_ready (rs := [9]) (by kernel_rfl) (by simp) ?_
      refine AllReady.cons rfl (fun K hK => ?_) AllReady.nil
      go_simp
      refine (HQ.out _).mono ?_
      rintro e w4 ⟨rfl, hb4⟩
      have T4 := Lib.hid ((T1.out.drewN (k2 + 1 + k3)).keep hb4)
      refine hK _ _ ?_
      clear hK K
      try simp only [Act.put, List.setIfInBounds_toArray, List.set_cons_zero, List.set_cons_succ]
      refine takeA (i := 10) (d := some 83) (v := ?_) rfl rfl (by kernel_rfl) (by kernel_rfl) (by kernel_rfl) (fun _ _ _ h => h) (Or.inl ⟨by rfl, ?_⟩) ?_
      rotate_left
      · intro w'; go_simp; try with_reducible rfl
      simp only [Act.put, List.setIfInBounds_toArray, List.set_cons_zero, List.set_cons_succ]
      refine takeA (i := 11) (d := some 84) (v := ?_) rfl rfl (by kernel_rfl) (by kernel_rfl) (by kernel_rfl) (fun _ _ _ h => h) (Or.inl ⟨by rfl, ?_⟩) ?_
      rotate_left
      · intro w'; go_simp; try with_reducible rfl
      simp only [Act.put, List.setIfInBounds_toArray, List.set_cons_zero, List.set_cons_succ]
      refine takeA (i := 12) (d := some 85) (v := ?_) rfl rfl (by kernel_rfl) (by kernel_rfl) (by kernel_rfl) (fun _ _ _ h => h) (Or.inl ⟨by rfl, ?_⟩) ?_
      rotate_left
      · intro w'; go_simp; try with_reducible rfl
      simp only [Act.put, List.setIfInBounds_toArray, List.set_cons_zero, List.set_cons_succ]
      refine wpAny_done (by kernel_rfl) ?_ _
      go_wp2_with (refine wpList_load_mid rfl _ _ rfl _ _ rfl (pcl (rp s)) _ T4.out.pack.range HU24.out rfl info24 ?_)
      refine (HK.out _).mono ?_; rintro e w5 ⟨rfl, hb5⟩
      have T5 := Lib.hid (T4.out.keep hb5)
      clear hb5
      go_wp2_with (first | (refine wpList_load_mid rfl _ _ rfl _ _ rfl (pcl (rp s)) _ T5.out.pack.range HU24.out rfl info24 ?_) | (refine wpList_store_mid rfl _ _ _ rfl _ _ (pc (rp s)) rfl rfl T5.out.zero.there info24 (pc_one (rp s)) ?_))
      have hz : rerr s = 0 := HZ.out.trans HC.out
      have hr : rt s = rp s := by unfold rt; rw [if_pos hz]
      exact bodyPost_ret (v := .tuple #[pv (rp s), .int .i64 0]) (by simp [results, Try.results13, Act.put, asAddr, told w5 w.heap.size pz (rp s) T5.out.zero]) rfl ⟨by rw [hr, hz], below_setCells T5.out.bel (Nat.le_refl _) _ _⟩

theorem rread_any (s : ByteArray) (hs : s.size ≤ 281474976710656) (w : World) :
    Calls Try.prog 13 #[.string s] w fun e w' => e = .returned (.tuple #[pv (rt s), .int .i64 (rerr s)]) ∧ Below w.heap.size w w' := by
  by_cases h : s.size < 20
  · have e : rerr s = 3 := by unfold rerr; rw [if_pos h]
    have e2 : rt s = pz := by unfold rt; rw [e]; rfl
    rw [e, e2]; exact rread_short s w h
  · exact rread_long s w (by omega) hs
end Go.Proofs.Ytlkodoiiigndoaa
