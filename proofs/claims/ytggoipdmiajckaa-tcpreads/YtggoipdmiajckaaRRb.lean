/-
  Contract of the document's TcpRead: what Read says.
-/
import Derived.Test.YtggoipdmiajckaaRRa
namespace Go.Proofs.Ytggoipdmiajckaa
open Go.RowKit
set_option linter.unusedVariables false
set_option linter.unusedSimpArgs false

/-- What the flags come to, as the document reckons them. -/
theorem flag_facts (B k : Nat) (hk : 1 ≤ k) : ∃ D M : Int, (B : Int).tdiv k = D ∧ (B : Int) / k = D ∧ 0 ≤ D ∧ D ≤ B ∧ D.tmod 2 = M ∧ D % 2 = M ∧ decide (0 < M) = bit B k := by
  have h0 : (0 : Int) ≤ (B : Int) / k := Int.ediv_nonneg (by omega) (by omega)
  refine ⟨(B : Int) / k, (B : Int) / k % 2, Int.tdiv_eq_ediv_of_nonneg (by omega), rfl, h0, ?_, Int.tmod_eq_emod_of_nonneg h0, rfl, ?_⟩
  · rw [← Int.natCast_ediv]; exact Int.ofNat_le.2 (Nat.div_le_self _ _)
  · unfold bit
    rw [← Int.natCast_ediv]
    by_cases h : B / k % 2 = 1
    · rw [decide_eq_true h]; simp; omega
    · rw [decide_eq_false h]; simp; omega

/-- What is wrong with a text whose words are told in their form. -/
theorem flt_more (src dst : Nat) (s : ByteArray) (h20 : 20 ≤ s.size) (hb20 : 20 ≤ bo s) (hm : (bt s 12).toNat % 16 = 0) (hbs : bo s ≤ s.size) : flt src dst s = if tw s 16 ≠ cs src dst (s.extract 0 16) (s.extract 18 s.size) then 5 else if 31 < (bt s 13).toNat then 4 else if tw s 18 ≠ 0 then 4 else 0 := by
  unfold flt
  rw [if_neg (by omega), if_neg (by omega), if_neg (by omega), if_neg (by omega)]
/-- The document leaves the check sum's own place out. -/
theorem sum_read (src dst : Nat) (s : ByteArray) (h : 20 ≤ s.size) : Pm.hv true (psd src dst 6 (s.size : Int) ++ s.extract 0 16 ++ s.extract 18 s.size).data.toList = Pm.hv true (cst src dst (s.extract 0 16) (s.extract 18 s.size)).data.toList := by
  have z6 : (s.extract 0 16).size = 16 := by simp; omega
  have z18 : (s.extract 18 s.size).size = s.size - 18 := by simp
  have zz : (s.extract 0 16 ++ wd 0 ++ s.extract 18 s.size).size = s.size := by simp only [ByteArray.size_append, wd_sz, z6, z18]; omega
  unfold cst
  rw [zz, hv_cat (psd src dst 6 (s.size : Int) ++ s.extract 0 16) _ (by simp only [ByteArray.size_append, psd_sz, z6]), hv_cat (psd src dst 6 (s.size : Int)) (s.extract 0 16) (by rw [psd_sz]), hv_cat (psd src dst 6 (s.size : Int)) _ (by rw [psd_sz]), hv_cat (s.extract 0 16 ++ wd 0) _ (by simp only [ByteArray.size_append, wd_sz, z6]), hv_cat (s.extract 0 16) _ (by rw [z6]), hv_wd 0 (by omega)]
  omega

theorem ffail (src dst : Nat) (s : ByteArray) (c : Int) (hc : c ≠ 0) (h : flt src dst s = c) : rerr src dst s = c ∧ rres src dst s = gz := by
  have e : rerr src dst s = c := by unfold rerr; rw [h, if_neg hc]
  exact ⟨e, by unfold rres; rw [e, if_neg hc]⟩

set_option maxRecDepth 100000 in
set_option maxHeartbeats 16000000 in
theorem rread_main (src dst : Nat) (s : ByteArray) (w : World) (h1 : src < 4294967296) (h2 : dst < 4294967296) (hs : s.size ≤ 140737488355328) (h20 : 20 ≤ s.size) (hb20 : 20 ≤ bo s) (hm : (bt s 12).toNat % 16 = 0) (hbs : bo s ≤ s.size) :
    Calls Try.prog 15 #[.int .u32 (src : Int), .int .u32 (dst : Int), .string s] w fun e w' => e = .returned (.tuple #[gv (rres src dst s), .int .i64 (rerr src dst s)]) ∧ Below w.heap.size w w' := by
  have hge : ¬ (s.size : Int) < 20 := by omega
  have i12 : ∀ w', (Instr.index 9 (.string s) (.int .i64 12)).run Try.prog w' = .ok (.int .u8 ((bt s 12).toNat : Int)) w' := fun w' => ix_run s 12 12 rfl (by omega) w'
  have i13 : ∀ w', (Instr.index 9 (.string s) (.int .i64 13)).run Try.prog w' = .ok (.int .u8 ((bt s 13).toNat : Int)) w' := fun w' => ix_run s 13 13 rfl (by omega) w'
  obtain ⟨T4, e1, e2, e3, e4, e5, e6, e7, e8⟩ := words_facts (bt s 12).toNat (bt s 12).toNat_lt
  rw [show (((bt s 12).toNat / 16 * 4 : Nat) : Int) = (bo s : Int) from rfl] at e7
  clear e8
  have l12 := (bt s 12).toNat_lt
  have l13 := (bt s 13).toNat_lt
  have v12 : IntKind.i64.wrap ((bt s 12).toNat : Int) = ((bt s 12).toNat : Int) := by rw [IntKind.wrap_i64]; omega
  have v13 : IntKind.i64.wrap ((bt s 13).toNat : Int) = ((bt s 13).toNat : Int) := by rw [IntKind.wrap_i64]; omega
  have d0 : decide ((bo s : Int) < 20) = false := by simp; omega
  have d3 : decide ((0 : Int) < ((bt s 12).toNat : Int) % 16) = false := by simp; omega
  have d4 : ¬ (s.size : Int) < (bo s : Int) := by omega
  have N16 : Hid (∀ w', Calls Try.prog 37 #[.string (s.extract 16 18)] w' fun e w'' => e = .returned (.int .u64 (tw s 16 : Int)) ∧ Below w'.heap.size w' w'') := fun w' => numT s 16 18 rfl (by omega) w'
  have s16 : ∀ w', (Instr.slice 9 (.string s) (some (.int .i64 16)) (some (.int .i64 18)) none).run Try.prog w' = .ok (.string (s.extract 16 18)) w' := fun w' => slT s 16 18 (by omega) (by omega) 16 18 rfl rfl (by omega) w'
  have N18 : Hid (∀ w', Calls Try.prog 37 #[.string (s.extract 18 20)] w' fun e w'' => e = .returned (.int .u64 (tw s 18 : Int)) ∧ Below w'.heap.size w' w'') := fun w' => numT s 18 20 rfl (by omega) w'
  have s18 : ∀ w', (Instr.slice 9 (.string s) (some (.int .i64 18)) (some (.int .i64 20)) none).run Try.prog w' = .ok (.string (s.extract 18 20)) w' := fun w' => slT s 18 20 (by omega) (by omega) 18 20 rfl rfl (by omega) w'
  have NA : Hid (∀ w', Calls Try.prog 37 #[.string (s.extract 0 2)] w' fun e w'' => e = .returned (.int .u64 (tw s 0 : Int)) ∧ Below w'.heap.size w' w'') := fun w' => numT s 0 2 rfl (by omega) w'
  have NB : Hid (∀ w', Calls Try.prog 37 #[.string (s.extract 2 4)] w' fun e w'' => e = .returned (.int .u64 (tw s 2 : Int)) ∧ Below w'.heap.size w' w'') := fun w' => numT s 2 4 rfl (by omega) w'
  have s2 : ∀ w', (Instr.slice 9 (.string s) (some (.int .i64 2)) (some (.int .i64 4)) none).run Try.prog w' = .ok (.string (s.extract 2 4)) w' := fun w' => slT s 2 4 (by omega) (by omega) 2 4 rfl rfl (by omega) w'
  have NE : Hid (∀ w', Calls Try.prog 37 #[.string (s.extract 14 16)] w' fun e w'' => e = .returned (.int .u64 (tw s 14 : Int)) ∧ Below w'.heap.size w' w'') := fun w' => numT s 14 16 rfl (by omega) w'
  have s14 : ∀ w', (Instr.slice 9 (.string s) (some (.int .i64 14)) (some (.int .i64 16)) none).run Try.prog w' = .ok (.string (s.extract 14 16)) w' := fun w' => slT s 14 16 (by omega) (by omega) 14 16 rfl rfl (by omega) w'
  have NC : Hid (∀ w', Calls Try.prog 37 #[.string (s.extract 4 8)] w' fun e w'' => e = .returned (.int .u64 (fo s 4 : Int)) ∧ Below w'.heap.size w' w'') := fun w' => numF s 4 8 rfl (by omega) w'
  have s4 : ∀ w', (Instr.slice 9 (.string s) (some (.int .i64 4)) (some (.int .i64 8)) none).run Try.prog w' = .ok (.string (s.extract 4 8)) w' := fun w' => slT s 4 8 (by omega) (by omega) 4 8 rfl rfl (by omega) w'
  have ND : Hid (∀ w', Calls Try.prog 37 #[.string (s.extract 8 12)] w' fun e w'' => e = .returned (.int .u64 (fo s 8 : Int)) ∧ Below w'.heap.size w' w'') := fun w' => numF s 8 12 rfl (by omega) w'
  have s8 : ∀ w', (Instr.slice 9 (.string s) (some (.int .i64 8)) (some (.int .i64 12)) none).run Try.prog w' = .ok (.string (s.extract 8 12)) w' := fun w' => slT s 8 12 (by omega) (by omega) 8 12 rfl rfl (by omega) w'
  have sh2 : ∀ w', (Instr.slice 9 (.string s) none (some (.int .i64 2)) none).run Try.prog w' = .ok (.string (s.extract 0 2)) w' := fun w' => by
    have := run_slice_string_h (P := Try.prog) w' 9 s Try.underlying9 .i64 2 (by omega) (by omega)
    simpa using this
  have sh16 : ∀ w', (Instr.slice 9 (.string s) none (some (.int .i64 16)) none).run Try.prog w' = .ok (.string (s.extract 0 16)) w' := fun w' => by
    have := run_slice_string_h (P := Try.prog) w' 9 s Try.underlying9 .i64 16 (by omega) (by omega)
    simpa using this
  have sl18 : ∀ w', (Instr.slice 9 (.string s) (some (.int .i64 18)) none none).run Try.prog w' = .ok (.string (s.extract 18 s.size)) w' := fun w' => by
    have := run_slice_string_l (P := Try.prog) w' 9 s Try.underlying9 .i64 18 (by omega) (by omega)
    simpa using this
  have slb : ∀ w', (Instr.slice 9 (.string s) (some (.int .i64 (bo s : Int))) none none).run Try.prog w' = .ok (.string (s.extract (bo s) s.size)) w' := fun w' => by
    have := run_slice_string_l (P := Try.prog) w' 9 s Try.underlying9 .i64 (bo s : Int) (by omega) (by omega)
    simpa using this
  have HP : Hid (∀ w', Calls Try.prog 27 #[.int .u32 (src : Int), .int .u32 (dst : Int), .int .i64 6, .int .i64 (s.size : Int)] w' fun e w'' => e = .returned (.string (psd src dst 6 (s.size : Int))) ∧ Below w'.heap.size w' w'') := fun w' => rpseudo_any _ _ _ _ w' h1 h2 (by omega) (by omega)
  have zx : (s.extract 0 16).size = 16 := by simp; omega
  have zy : (s.extract 18 s.size).size = s.size - 18 := by simp
  have zp := psd_sz src dst 6 (s.size : Int)
  have t1 : ∀ w', (Op.stringOp .add (psd src dst 6 (s.size : Int)) (s.extract 0 16)).run Try.prog w' = .ok (.string (psd src dst 6 (s.size : Int) ++ s.extract 0 16)) w' := fun w' => run_string_add_sum w' _ _ (by omega)
  have t2 : ∀ w', (Op.stringOp .add (psd src dst 6 (s.size : Int) ++ s.extract 0 16) (s.extract 18 s.size)).run Try.prog w' = .ok (.string (psd src dst 6 (s.size : Int) ++ s.extract 0 16 ++ s.extract 18 s.size)) w' := fun w' => run_string_add_sum w' _ _ (by rw [ByteArray.size_append]; omega)
  have HS : Hid (∀ w', Calls Try.prog 26 #[.string (psd src dst 6 (s.size : Int) ++ s.extract 0 16 ++ s.extract 18 s.size)] w' fun e w'' => e = .returned (.int .u16 (Pm.fd (Pm.hv true (cst src dst (s.extract 0 16) (s.extract 18 s.size)).data.toList) : Int)) ∧ Below w'.heap.size w' w'') := fun w' => by
    have := rsum_any (psd src dst 6 (s.size : Int) ++ s.extract 0 16 ++ s.extract 18 s.size) w' (by simp only [ByteArray.size_append]; omega)
    rwa [sum_read src dst s h20] at this
  have hD := Pm.fd_le (Pm.hv true (cst src dst (s.extract 0 16) (s.extract 18 s.size)).data.toList)
  have HCS : Hid (cs src dst (s.extract 0 16) (s.extract 18 s.size) = 65535 - Pm.fd (Pm.hv true (cst src dst (s.extract 0 16) (s.extract 18 s.size)).data.toList)) := rfl
  have HFT := Lib.hid (flt_more src dst s h20 hb20 hm hbs)
  have HE : Hid (rerr src dst s = if flt src dst s = 0 then (if rm s = none then 4 else gchk (rg src dst s)) else flt src dst s) := rfl
  have HZ : Hid (rres src dst s = if rerr src dst s = 0 then rg src dst s else gz) := rfl
  have HK : Hid (∀ w', Calls Try.prog 11 #[gv (rg src dst s)] w' fun e w'' => e = .returned (.int .i64 (gchk (rg src dst s))) ∧ Below w'.heap.size w' w'') := fun w' => rchk_any _ w'
  have HRM : Hid (mo s (bo s) (bo s) 20 0 = rm s) := rfl
  have HRG : Hid (rg src dst s = ⟨src, (tw s 0 : Int), dst, (tw s 2 : Int), fo s 4, fo s 8, bit (bt s 13).toNat 2, bit (bt s 13).toNat 16, bit (bt s 13).toNat 1, bit (bt s 13).toNat 4, (tw s 14 : Int), (((rm s).getD 0 : Nat) : Int), s.extract (bo s) s.size⟩) := rfl
  have u0 : IntKind.i64.wrap (tw s 0 : Int) = (tw s 0 : Int) := by have := tw_le s 0; rw [IntKind.wrap_i64]; omega
  have u2 : IntKind.i64.wrap (tw s 2 : Int) = (tw s 2 : Int) := by have := tw_le s 2; rw [IntKind.wrap_i64]; omega
  have u14 : IntKind.i64.wrap (tw s 14 : Int) = (tw s 14 : Int) := by have := tw_le s 14; rw [IntKind.wrap_i64]; omega
  have u16 : IntKind.i64.wrap (tw s 16 : Int) = (tw s 16 : Int) := by have := tw_le s 16; rw [IntKind.wrap_i64]; omega
  have u4 : IntKind.u32.wrap (fo s 4 : Int) = (fo s 4 : Int) := by have := fo_lt s 4; rw [IntKind.wrap_u32]; omega
  have u8 : IntKind.u32.wrap (fo s 8 : Int) = (fo s 8 : Int) := by have := fo_lt s 8; rw [IntKind.wrap_u32]; omega
  obtain ⟨D1, M1, f1a, f1b, f1c, f1d, f1e, f1f, f1g⟩ := flag_facts (bt s 13).toNat 1 (by omega)
  obtain ⟨D2, M2, f2a, f2b, f2c, f2d, f2e, f2f, f2g⟩ := flag_facts (bt s 13).toNat 2 (by omega)
  replace f2a : ((bt s 13).toNat : Int).tdiv 2 = D2 := f2a
  replace f2b : ((bt s 13).toNat : Int) / 2 = D2 := f2b
  have f2h : wrap64 D2 = D2 := by unfold wrap64; omega
  have f2i : IntKind.i64.wrap D2 = D2 := by rw [IntKind.wrap_i64]; omega
  clear f2c f2d
  obtain ⟨D4, M4, f4a, f4b, f4c, f4d, f4e, f4f, f4g⟩ := flag_facts (bt s 13).toNat 4 (by omega)
  replace f4a : ((bt s 13).toNat : Int).tdiv 4 = D4 := f4a
  replace f4b : ((bt s 13).toNat : Int) / 4 = D4 := f4b
  have f4h : wrap64 D4 = D4 := by unfold wrap64; omega
  have f4i : IntKind.i64.wrap D4 = D4 := by rw [IntKind.wrap_i64]; omega
  clear f4c f4d
  obtain ⟨D16, M16, f16a, f16b, f16c, f16d, f16e, f16f, f16g⟩ := flag_facts (bt s 13).toNat 16 (by omega)
  replace f16a : ((bt s 13).toNat : Int).tdiv 16 = D16 := f16a
  replace f16b : ((bt s 13).toNat : Int) / 16 = D16 := f16b
  have f16h : wrap64 D16 = D16 := by unfold wrap64; omega
  have f16i : IntKind.i64.wrap D16 = D16 := by rw [IntKind.wrap_i64]; omega
  clear f16c f16d
  have g1a : ((bt s 13).toNat : Int).tmod 2 = M1 := by rw [← f1e, ← f1b]; simp
  have g1b : ((bt s 13).toNat : Int) % 2 = M1 := by rw [← f1f, ← f1b]; simp
  clear f1a f1b f1c f1d f1e f1f D1
  have LI : Hid (∀ a : Nat, a < bo s → ∀ w', (Instr.index 9 (.string s) (.int .i64 (a : Int))).run Try.prog w' = .ok (.int .u8 ((bt s a).toNat : Int)) w') := fun a h w' => ix_run s a a rfl (by omega) w'
  have LJ : Hid (∀ a : Nat, a + 1 < bo s → ∀ w', (Instr.index 9 (.string s) (.int .i64 ((a : Int) + 1))).run Try.prog w' = .ok (.int .u8 ((bt s (a + 1)).toNat : Int)) w') := fun a h w' => ix_run s _ (a + 1) (by omega) (by omega) w'
  have LS : Hid (∀ a : Nat, a + 4 ≤ bo s → ∀ w', (Instr.slice 9 (.string s) (some (.int .i64 ((a : Int) + 2))) (some (.int .i64 ((a : Int) + 4))) none).run Try.prog w' = .ok (.string (s.extract (a + 2) (a + 4))) w') := fun a h w' => slT s (a + 2) (a + 4) (by omega) (by omega) _ _ (by omega) (by omega) (by omega) w'
  have LN : Hid (∀ a : Nat, a + 4 ≤ bo s → ∀ w', Calls Try.prog 37 #[.string (s.extract (a + 2) (a + 4))] w' fun e w'' => e = .returned (.int .u64 (tw s (a + 2) : Int)) ∧ Below w'.heap.size w' w'') := fun a h w' => numT s (a + 2) (a + 4) (by omega) (by omega) w'
  have hbl := bo_le s
  have b0 : Below w.heap.size w (w.alloc (.cells gzc 26)) := (Below.refl _ _).alloc (Nat.le_refl _) _
  have P0 : Hid (GB w.heap.size gz (w.alloc (.cells gzc 26))) := GB.new w gz
  clear zx zy zp
  generalize rres src dst s = Z at *
  generalize rerr src dst s = E at *
  generalize flt src dst s = F at *
  generalize gchk (rg src dst s) = K at *
  generalize rg src dst s = G at *
  generalize rm s = R at *
  generalize cs src dst (s.extract 0 16) (s.extract 18 s.size) = C at *
  generalize Pm.fd (Pm.hv true (cst src dst (s.extract 0 16) (s.extract 18 s.size)).data.toList) = D at *
  generalize psd src dst 6 (s.size : Int) ++ s.extract 0 16 ++ s.extract 18 s.size = S2 at *
  generalize psd src dst 6 (s.size : Int) ++ s.extract 0 16 = S1 at *
  generalize psd src dst 6 (s.size : Int) = S0 at *
  generalize s.extract (bo s) s.size = Y at *
  generalize s.extract 18 s.size = Y18 at *
  generalize s.extract 0 16 = X16 at *
  generalize s.extract 0 2 = Xa at *
  generalize s.extract 2 4 = Xb at *
  generalize s.extract 4 8 = Xc at *
  generalize s.extract 8 12 = Xd at *
  generalize s.extract 14 16 = Xe at *
  generalize s.extract 16 18 = Xf at *
  generalize s.extract 18 20 = Xg at *
  generalize tw s 0 = N0 at *
  generalize tw s 2 = N2 at *
  generalize fo s 4 = N4 at *
  generalize fo s 8 = N8 at *
  generalize tw s 14 = N14 at *
  generalize tw s 16 = U at *
  generalize tw s 18 = V at *
  generalize bit (bt s 13).toNat 1 = B1 at *
  generalize bit (bt s 13).toNat 2 = B2 at *
  generalize bit (bt s 13).toNat 4 = B4 at *
  generalize bit (bt s 13).toNat 16 = B16 at *
  generalize (bt s 12).toNat = A at *
  generalize (bt s 13).toNat = B at *
  generalize bo s = T at *
  have w1 : IntKind.i64.wrap (D : Int) = (D : Int) := by rw [IntKind.wrap_i64]; omega
  have w2 : IntKind.i64.wrap (65535 - (D : Int)) = 65535 - (D : Int) := by rw [IntKind.wrap_i64]; omega
  obtain ⟨q, hq, hqi⟩ : ∃ q : Bool, ((U : Int) != 65535 - (D : Int)) = q ∧ (q = true ↔ U ≠ C) := ⟨_, rfl, by rw [HCS.out]; simp; omega⟩
  have HQ := Lib.hid hqi
  clear hqi HCS hm
  have H5 : Hid (q = true → E = 5 ∧ Z = gz) := fun hh => by
    have a1 : F = 5 := by rw [HFT.out, if_pos (HQ.out.1 hh)]
    have a2 : E = 5 := by rw [HE.out, if_neg (by rw [a1]; decide), a1]
    exact ⟨a2, by rw [HZ.out, if_neg (by rw [a2]; decide)]⟩
  have H4 : Hid (q = false → (31 < B ∨ V ≠ 0) → E = 4 ∧ Z = gz) := fun hh hv => by
    have nu : ¬ U ≠ C := fun x => by have := HQ.out.2 x; rw [hh] at this; cases this
    have a1 : F = 4 := by
      rw [HFT.out, if_neg nu]
      by_cases hB : 31 < B
      · rw [if_pos hB]
      · rw [if_neg hB, if_pos (hv.resolve_left hB)]
    have a2 : E = 4 := by rw [HE.out, if_neg (by rw [a1]; decide), a1]
    exact ⟨a2, by rw [HZ.out, if_neg (by rw [a2]; decide)]⟩
  have HN : Hid (q = false → ¬ 31 < B → V = 0 → R = none → E = 4 ∧ Z = gz) := fun hh hB hV hr => by
    have nu : ¬ U ≠ C := fun x => by have := HQ.out.2 x; rw [hh] at this; cases this
    have a1 : F = 0 := by rw [HFT.out, if_neg nu, if_neg hB, if_neg (fun x => x hV)]
    have a2 : E = 4 := by rw [HE.out, if_pos a1, if_pos hr]
    exact ⟨a2, by rw [HZ.out, if_neg (by rw [a2]; decide)]⟩
  have HT : Hid (q = false → ¬ 31 < B → V = 0 → ∀ m : Nat, R = some m → ⟨src, (N0 : Int), dst, (N2 : Int), N4, N8, B2, B16, B1, B4, (N14 : Int), (m : Int), Y⟩ = G ∧ E = K ∧ Z = if K = 0 then G else gz) := fun hh hB hV m hr => by
    have nu : ¬ U ≠ C := fun x => by have := HQ.out.2 x; rw [hh] at this; cases this
    have a1 : F = 0 := by rw [HFT.out, if_neg nu, if_neg hB, if_neg (fun x => x hV)]
    have a2 : E = K := by rw [HE.out, if_pos a1, if_neg (by rw [hr]; intro x; cases x)]
    exact ⟨by rw [HRG.out, hr]; rfl, a2, by rw [HZ.out, a2]⟩
  clear HFT HE HZ HQ HRG
  go_enter Try.func15, Try.ntmps15
  go_wp2_with fail
  go_cut [56] from 38 to 55 (fun v wc => v = .bool q ∧ GB w.heap.size gz wc ∧ Below w.heap.size w wc)
  case first =>
    refine wp_region_held_drew (S := fun w' => Hid (GB w.heap.size gz w')) (by kernel_rfl) (Lib.hid P0.out.drew) (fun hHeld => ?_)
    refine takeH (i := 0) (d := some 38) (v := ?_) rfl rfl (by kernel_rfl) (by kernel_rfl) (by kernel_rfl) (fun _ _ _ h => h) (Or.inl ⟨by rfl, ?_⟩) hHeld ?_
    rotate_left
    · intro w' hSw; (try dsimp only at hSw); go_simp; try with_reducible rfl
    simp only [Act.put, List.setIfInBounds_toArray, List.set_cons_zero, List.set_cons_succ]
    refine takeH (i := 1) (d := some 39) (v := ?_) rfl rfl (by kernel_rfl) (by kernel_rfl) (by kernel_rfl) (fun _ _ _ h => h) (Or.inl ⟨by rfl, ?_⟩) hHeld ?_
    rotate_left
    · intro w' hSw; (try dsimp only at hSw); go_simp; try with_reducible rfl
    simp only [Act.put, List.setIfInBounds_toArray, List.set_cons_zero, List.set_cons_succ]
    refine takeH (i := 4) (d := some 42) (v := ?_) rfl rfl (by kernel_rfl) (by kernel_rfl) (by kernel_rfl) (fun _ _ _ h => h) (Or.inl ⟨by rfl, ?_⟩) hHeld ?_
    rotate_left
    · intro w' hSw; (try dsimp only at hSw); go_simp; try with_reducible rfl
    simp only [Act.put, List.setIfInBounds_toArray, List.set_cons_zero, List.set_cons_succ]
    refine takeH (i := 5) (d := some 43) (v := ?_) rfl rfl (by kernel_rfl) (by kernel_rfl) (by kernel_rfl) (fun _ _ _ h => h) (Or.inl ⟨by rfl, ?_⟩) hHeld ?_
    rotate_left
    · intro w' hSw; (try dsimp only at hSw); go_simp; try with_reducible rfl
    simp only [Act.put, List.setIfInBounds_toArray, List.set_cons_zero, List.set_cons_succ]
    refine takeH (i := 6) (d := some 44) (v := ?_) rfl rfl (by kernel_rfl) (by kernel_rfl) (by kernel_rfl) (fun _ _ _ h => h) (Or.inl ⟨by rfl, ?_⟩) hHeld ?_
    rotate_left
    · intro w' hSw; (try dsimp only at hSw); go_simp; try with_reducible rfl
    simp only [Act.put, List.setIfInBounds_toArray, List.set_cons_zero, List.set_cons_succ]
    refine takeH (i := 7) (d := some 45) (v := ?_) rfl rfl (by kernel_rfl) (by kernel_rfl) (by kernel_rfl) (fun _ _ _ h => h) (Or.inl ⟨by rfl, ?_⟩) hHeld ?_
    rotate_left
    · intro w' hSw; (try dsimp only at hSw); go_simp; try with_reducible rfl
    simp only [Act.put, List.setIfInBounds_toArray, List.set_cons_zero, List.set_cons_succ]
    refine takeH (i := 9) (d := some 47) (v := ?_) rfl rfl (by kernel_rfl) (by kernel_rfl) (by kernel_rfl) (fun _ _ _ h => h) (Or.inl ⟨by rfl, ?_⟩) hHeld ?_
    rotate_left
    · intro w' hSw; (try dsimp only at hSw); go_simp; try with_reducible rfl
    simp only [Act.put, List.setIfInBounds_toArray, List.set_cons_zero, List.set_cons_succ]
    refine takeH (i := 10) (d := some 48) (v := ?_) rfl rfl (by kernel_rfl) (by kernel_rfl) (by kernel_rfl) (fun _ _ _ h => h) (Or.inl ⟨by rfl, ?_⟩) hHeld ?_
    rotate_left
    · intro w' hSw; (try dsimp only at hSw); go_simp; try with_reducible rfl
    simp only [Act.put, List.setIfInBounds_toArray, List.set_cons_zero, List.set_cons_succ]
    refine takeH (i := 12) (d := some 50) (v := ?_) rfl rfl (by kernel_rfl) (by kernel_rfl) (by kernel_rfl) (fun _ _ _ h => h) (Or.inl ⟨by rfl, ?_⟩) hHeld ?_
    rotate_left
    · intro w' hSw; (try dsimp only at hSw); go_simp; try with_reducible rfl
    simp only [Act.put, List.setIfInBounds_toArray, List.set_cons_zero, List.set_cons_succ]
    refine takeH (i := 13) (d := some 51) (v := ?_) rfl rfl (by kernel_rfl) (by kernel_rfl) (by kernel_rfl) (fun _ _ _ h => h) (Or.inl ⟨by rfl, ?_⟩) hHeld ?_
    rotate_left
    · intro w' hSw; (try dsimp only at hSw); go_simp; try with_reducible rfl
    simp only [Act.put, List.setIfInBounds_toArray, List.set_cons_zero, List.set_cons_succ]
    refine wpAnyH_ready (rs := [2]) (by kernel_rfl) (by simp) ?_
    refine AllReadyH.cons rfl (fun K hK => ?_) AllReadyH.nil
    go_simp
    refine (N16.out _).mono ?_; rintro e y1 ⟨rfl, hb1⟩
    have Q_1 := Lib.hid (hHeld.out.keep hb1)
    have b_1 := b0.drew.trans (hb1.mono b0.drew.size)
    clear hHeld hb1
    refine hK.out _ _ Q_1 (fun hHeld => ?_)
    clear hK K
    try simp only [Act.put, List.setIfInBounds_toArray, List.set_cons_zero, List.set_cons_succ]
    refine takeH (i := 3) (d := some 41) (v := ?_) rfl rfl (by kernel_rfl) (by kernel_rfl) (by kernel_rfl) (fun _ _ _ h => h) (Or.inl ⟨by rfl, ?_⟩) hHeld ?_
    rotate_left
    · intro w' hSw; (try dsimp only at hSw); go_simp; try with_reducible rfl
    simp only [Act.put, List.setIfInBounds_toArray, List.set_cons_zero, List.set_cons_succ]
    refine wpAnyH_ready (rs := [8]) (by kernel_rfl) (by simp) ?_
    refine AllReadyH.cons rfl (fun K hK => ?_) AllReadyH.nil
    go_simp
    refine (HP.out _).mono ?_; rintro e y2 ⟨rfl, hb2⟩
    have Q_2 := Lib.hid (hHeld.out.keep hb2)
    have b_2 := b_1.trans (hb2.mono b_1.size)
    clear hHeld hb2
    refine hK.out _ _ Q_2 (fun hHeld => ?_)
    clear hK K
    try simp only [Act.put, List.setIfInBounds_toArray, List.set_cons_zero, List.set_cons_succ]
    refine takeH (i := 11) (d := some 49) (v := ?_) rfl rfl (by kernel_rfl) (by kernel_rfl) (by kernel_rfl) (fun _ _ _ h => h) (Or.inl ⟨by rfl, ?_⟩) hHeld ?_
    rotate_left
    · intro w' hSw; (try dsimp only at hSw); go_simp; try with_reducible rfl
    simp only [Act.put, List.setIfInBounds_toArray, List.set_cons_zero, List.set_cons_succ]
    refine takeH (i := 14) (d := some 52) (v := ?_) rfl rfl (by kernel_rfl) (by kernel_rfl) (by kernel_rfl) (fun _ _ _ h => h) (Or.inl ⟨by rfl, ?_⟩) hHeld ?_
    rotate_left
    · intro w' hSw; (try dsimp only at hSw); go_simp; try with_reducible rfl
    simp only [Act.put, List.setIfInBounds_toArray, List.set_cons_zero, List.set_cons_succ]
    refine wpAnyH_ready (rs := [15]) (by kernel_rfl) (by simp) ?_
    refine AllReadyH.cons rfl (fun K hK => ?_) AllReadyH.nil
    go_simp
    refine (HS.out _).mono ?_; rintro e y3 ⟨rfl, hb3⟩
    have Q_3 := Lib.hid (hHeld.out.keep hb3)
    have b_3 := b_2.trans (hb3.mono b_2.size)
    clear hHeld hb3
    refine hK.out _ _ Q_3 (fun hHeld => ?_)
    clear hK K
    try simp only [Act.put, List.setIfInBounds_toArray, List.set_cons_zero, List.set_cons_succ]
    refine takeH (i := 16) (d := some 54) (v := ?_) rfl rfl (by kernel_rfl) (by kernel_rfl) (by kernel_rfl) (fun _ _ _ h => h) (Or.inl ⟨by rfl, ?_⟩) hHeld ?_
    rotate_left
    · intro w' hSw; (try dsimp only at hSw); go_simp; try with_reducible rfl
    simp only [Act.put, List.setIfInBounds_toArray, List.set_cons_zero, List.set_cons_succ]
    refine takeH (i := 17) (d := some 55) (v := ?_) rfl rfl (by kernel_rfl) (by kernel_rfl) (by kernel_rfl) (fun _ _ _ h => h) (Or.inl ⟨by rfl, ?_⟩) hHeld ?_
    rotate_left
    · intro w' hSw; (try dsimp only at hSw); go_simp; try with_reducible rfl
    simp only [Act.put, List.setIfInBounds_toArray, List.set_cons_zero, List.set_cons_succ]
    refine takeH (i := 18) (d := some 56) (v := ?_) rfl rfl (by kernel_rfl) (by kernel_rfl) (by kernel_rfl) (fun _ _ _ h => h) (Or.inl ⟨by rfl, ?_⟩) hHeld ?_
    rotate_left
    · intro w' hSw; (try dsimp only at hSw); go_simp; try with_reducible rfl
    simp only [Act.put, List.setIfInBounds_toArray, List.set_cons_zero, List.set_cons_succ]
    refine wpAnyH_done (by kernel_rfl) ?_ _
    try dsimp only
    try go_wp2_with fail
    go_meet
    exact ⟨rfl, hHeld.out, b_3⟩
  case rest =>
    obtain ⟨rfl, PP, b1⟩ := hcut
    have P1 := Lib.hid PP
    clear PP P0 b0 hq
    cases q
    · clear H5
      replace H4 := Lib.hid (H4.out rfl)
      replace HN := Lib.hid (HN.out rfl)
      replace HT := Lib.hid (HT.out rfl)
      by_cases c5 : 31 < B
      · have HR := Lib.hid (H4.out (Or.inl c5))
        have d5 : (31 : Int) < (B : Int) := by omega
        clear H4 HN HT
        go_wp2_with (refine wpList_store_mid rfl _ _ _ rfl _ _ (gc gz) rfl rfl P1.out.there info26 (gc_one gz) ?_)
        exact bodyPost_ret (v := .tuple #[gv gz, .int .i64 4]) (by simp [results, Try.results15, Act.put, asAddr, told wc w.heap.size gz gz P1.out]) rfl ⟨by rw [HR.out.1, HR.out.2], below_setCells b1 (Nat.le_refl _) _ _⟩
      · have d5 : ¬ (31 : Int) < (B : Int) := by omega
        by_cases c6 : V ≠ 0
        · have HR := Lib.hid (H4.out (Or.inr c6))
          have d6 : (0 : Int) < (V : Int) := by omega
          clear H4 HN HT
          go_wp2_with fail
          refine (N18.out _).mono ?_; rintro e w4 ⟨rfl, hb4⟩
          have P4 := Lib.hid (P1.out.keep hb4)
          have b4 := b1.trans (hb4.mono b1.size)
          go_wp2_with (refine wpList_store_mid rfl _ _ _ rfl _ _ (gc gz) rfl rfl P4.out.there info26 (gc_one gz) ?_)
          exact bodyPost_ret (v := .tuple #[gv gz, .int .i64 4]) (by simp [results, Try.results15, Act.put, asAddr, told w4 w.heap.size gz gz P4.out]) rfl ⟨by rw [HR.out.1, HR.out.2], below_setCells b4 (Nat.le_refl _) _ _⟩
        · have c6' : V = 0 := by omega
          have d6 : ¬ (0 : Int) < (V : Int) := by omega
          replace HN := Lib.hid (HN.out c5 c6')
          replace HT := Lib.hid (HT.out c5 c6')
          clear H4
          go_wp2_with fail
          refine (N18.out _).mono ?_; rintro e w4 ⟨rfl, hb4⟩
          have P_a := Lib.hid (P1.out.keep hb4).drew
          have b_a : Below w.heap.size w w4.drew := (b1.trans (hb4.mono b1.size)).drew
          clear P1 b1 hb4 c6 c6'
          go_wp2_with fail
          go_cut [10] from 57 to 112 (fun v wc => ∃ n, v = .pointer (some ⟨n, 0, none⟩) ∧ GB n ⟨src, (N0 : Int), dst, (N2 : Int), N4, N8, B2, B16, B1, B4, (N14 : Int), 0, Y⟩ wc ∧ GB w.heap.size gz wc ∧ w.heap.size < n ∧ Below w.heap.size w wc)
          case first =>
            refine wp_region_held_drew (S := fun w' => Hid (GB w.heap.size gz w')) (by kernel_rfl) P_a (fun hHeld => ?_)
            refine takeH (i := 0) (d := some 70) (v := ?_) rfl rfl (by kernel_rfl) (by kernel_rfl) (by kernel_rfl) (fun _ _ _ h => h) (Or.inl ⟨by rfl, ?_⟩) hHeld ?_
            rotate_left
            · intro w' hSw; (try dsimp only at hSw); go_simp; try with_reducible rfl
            simp only [Act.put, List.setIfInBounds_toArray, List.set_cons_zero, List.set_cons_succ]
            refine takeH (i := 1) (d := some 71) (v := ?_) rfl rfl (by kernel_rfl) (by kernel_rfl) (by kernel_rfl) (fun _ _ _ h => h) (Or.inl ⟨by rfl, ?_⟩) hHeld ?_
            rotate_left
            · intro w' hSw; (try dsimp only at hSw); go_simp; try with_reducible rfl
            simp only [Act.put, List.setIfInBounds_toArray, List.set_cons_zero, List.set_cons_succ]
            refine takeH (i := 6) (d := some 76) (v := ?_) rfl rfl (by kernel_rfl) (by kernel_rfl) (by kernel_rfl) (fun _ _ _ h => h) (Or.inl ⟨by rfl, ?_⟩) hHeld ?_
            rotate_left
            · intro w' hSw; (try dsimp only at hSw); go_simp; try with_reducible rfl
            simp only [Act.put, List.setIfInBounds_toArray, List.set_cons_zero, List.set_cons_succ]
            refine takeH (i := 7) (d := some 77) (v := ?_) rfl rfl (by kernel_rfl) (by kernel_rfl) (by kernel_rfl) (fun _ _ _ h => h) (Or.inl ⟨by rfl, ?_⟩) hHeld ?_
            rotate_left
            · intro w' hSw; (try dsimp only at hSw); go_simp; try with_reducible rfl
            simp only [Act.put, List.setIfInBounds_toArray, List.set_cons_zero, List.set_cons_succ]
            refine takeH (i := 12) (d := some 82) (v := ?_) rfl rfl (by kernel_rfl) (by kernel_rfl) (by kernel_rfl) (fun _ _ _ h => h) (Or.inl ⟨by rfl, ?_⟩) hHeld ?_
            rotate_left
            · intro w' hSw; (try dsimp only at hSw); go_simp; try with_reducible rfl
            simp only [Act.put, List.setIfInBounds_toArray, List.set_cons_zero, List.set_cons_succ]
            refine takeH (i := 16) (d := some 86) (v := ?_) rfl rfl (by kernel_rfl) (by kernel_rfl) (by kernel_rfl) (fun _ _ _ h => h) (Or.inl ⟨by rfl, ?_⟩) hHeld ?_
            rotate_left
            · intro w' hSw; (try dsimp only at hSw); go_simp; try with_reducible rfl
            simp only [Act.put, List.setIfInBounds_toArray, List.set_cons_zero, List.set_cons_succ]
            refine takeH (i := 20) (d := some 90) (v := ?_) rfl rfl (by kernel_rfl) (by kernel_rfl) (by kernel_rfl) (fun _ _ _ h => h) (Or.inl ⟨by rfl, ?_⟩) hHeld ?_
            rotate_left
            · intro w' hSw; (try dsimp only at hSw); go_simp; try with_reducible rfl
            simp only [Act.put, List.setIfInBounds_toArray, List.set_cons_zero, List.set_cons_succ]
            refine takeH (i := 23) (d := some 93) (v := ?_) rfl rfl (by kernel_rfl) (by kernel_rfl) (by kernel_rfl) (fun _ _ _ h => h) (Or.inl ⟨by rfl, ?_⟩) hHeld ?_
            rotate_left
            · intro w' hSw; (try dsimp only at hSw); go_simp; try with_reducible rfl
            simp only [Act.put, List.setIfInBounds_toArray, List.set_cons_zero, List.set_cons_succ]
            refine takeH (i := 27) (d := some 97) (v := ?_) rfl rfl (by kernel_rfl) (by kernel_rfl) (by kernel_rfl) (fun _ _ _ h => h) (Or.inl ⟨by rfl, ?_⟩) hHeld ?_
            rotate_left
            · intro w' hSw; (try dsimp only at hSw); go_simp; try with_reducible rfl
            simp only [Act.put, List.setIfInBounds_toArray, List.set_cons_zero, List.set_cons_succ]
            refine takeH (i := 31) (d := some 101) (v := ?_) rfl rfl (by kernel_rfl) (by kernel_rfl) (by kernel_rfl) (fun _ _ _ h => h) (Or.inl ⟨by rfl, ?_⟩) hHeld ?_
            rotate_left
            · intro w' hSw; (try dsimp only at hSw); go_simp; try with_reducible rfl
            simp only [Act.put, List.setIfInBounds_toArray, List.set_cons_zero, List.set_cons_succ]
            refine takeH (i := 35) (d := some 105) (v := ?_) rfl rfl (by kernel_rfl) (by kernel_rfl) (by kernel_rfl) (fun _ _ _ h => h) (Or.inl ⟨by rfl, ?_⟩) hHeld ?_
            rotate_left
            · intro w' hSw; (try dsimp only at hSw); go_simp; try with_reducible rfl
            simp only [Act.put, List.setIfInBounds_toArray, List.set_cons_zero, List.set_cons_succ]
            refine takeH (i := 39) (d := some 109) (v := ?_) rfl rfl (by kernel_rfl) (by kernel_rfl) (by kernel_rfl) (fun _ _ _ h => h) (Or.inl ⟨by rfl, ?_⟩) hHeld ?_
            rotate_left
            · intro w' hSw; (try dsimp only at hSw); go_simp; try with_reducible rfl
            simp only [Act.put, List.setIfInBounds_toArray, List.set_cons_zero, List.set_cons_succ]
            refine takeH (i := 40) (d := some 110) (v := ?_) rfl rfl (by kernel_rfl) (by kernel_rfl) (by kernel_rfl) (fun _ _ _ h => h) (Or.inl ⟨by rfl, ?_⟩) hHeld ?_
            rotate_left
            · intro w' hSw; (try dsimp only at hSw); go_simp; try with_reducible rfl
            simp only [Act.put, List.setIfInBounds_toArray, List.set_cons_zero, List.set_cons_succ]
            refine takeH (i := 2) (d := some 72) (v := ?_) rfl rfl (by kernel_rfl) (by kernel_rfl) (by kernel_rfl) (fun _ _ _ h => h) (Or.inl ⟨by rfl, ?_⟩) hHeld ?_
            rotate_left
            · intro w' hSw; (try dsimp only at hSw); go_simp; try with_reducible rfl
            simp only [Act.put, List.setIfInBounds_toArray, List.set_cons_zero, List.set_cons_succ]
            refine takeH (i := 8) (d := some 78) (v := ?_) rfl rfl (by kernel_rfl) (by kernel_rfl) (by kernel_rfl) (fun _ _ _ h => h) (Or.inl ⟨by rfl, ?_⟩) hHeld ?_
            rotate_left
            · intro w' hSw; (try dsimp only at hSw); go_simp; try with_reducible rfl
            simp only [Act.put, List.setIfInBounds_toArray, List.set_cons_zero, List.set_cons_succ]
            refine takeH (i := 13) (d := some 83) (v := ?_) rfl rfl (by kernel_rfl) (by kernel_rfl) (by kernel_rfl) (fun _ _ _ h => h) (Or.inl ⟨by rfl, ?_⟩) hHeld ?_
            rotate_left
            · intro w' hSw; (try dsimp only at hSw); go_simp; try with_reducible rfl
            simp only [Act.put, List.setIfInBounds_toArray, List.set_cons_zero, List.set_cons_succ]
            refine takeH (i := 17) (d := some 87) (v := ?_) rfl rfl (by kernel_rfl) (by kernel_rfl) (by kernel_rfl) (fun _ _ _ h => h) (Or.inl ⟨by rfl, ?_⟩) hHeld ?_
            rotate_left
            · intro w' hSw; (try dsimp only at hSw); go_simp; try with_reducible rfl
            simp only [Act.put, List.setIfInBounds_toArray, List.set_cons_zero, List.set_cons_succ]
            refine takeH (i := 36) (d := some 106) (v := ?_) rfl rfl (by kernel_rfl) (by kernel_rfl) (by kernel_rfl) (fun _ _ _ h => h) (Or.inl ⟨by rfl, ?_⟩) hHeld ?_
            rotate_left
            · intro w' hSw; (try dsimp only at hSw); go_simp; try with_reducible rfl
            simp only [Act.put, List.setIfInBounds_toArray, List.set_cons_zero, List.set_cons_succ]
            refine takeH (i := 41) (d := some 111) (v := ?_) rfl rfl (by kernel_rfl) (by kernel_rfl) (by kernel_rfl) (fun _ _ _ h => h) (Or.inl ⟨by rfl, ?_⟩) hHeld ?_
            rotate_left
            · intro w' hSw; (try dsimp only at hSw); go_simp; try with_reducible rfl
            simp only [Act.put, List.setIfInBounds_toArray, List.set_cons_zero, List.set_cons_succ]
            refine takeH (i := 21) (d := some 91) (v := ?_) rfl rfl (by kernel_rfl) (by kernel_rfl) (by kernel_rfl) (fun _ _ _ h => h) (Or.inl ⟨by rfl, ?_⟩) hHeld ?_
            rotate_left
            · intro w' hSw; (try dsimp only at hSw); go_simp; try with_reducible rfl
            simp only [Act.put, List.setIfInBounds_toArray, List.set_cons_zero, List.set_cons_succ]
            refine takeH (i := 22) (d := some 92) (v := ?_) rfl rfl (by kernel_rfl) (by kernel_rfl) (by kernel_rfl) (fun _ _ _ h => h) (Or.inl ⟨by rfl, ?_⟩) hHeld ?_
            rotate_left
            · intro w' hSw; (try dsimp only at hSw); go_simp; try with_reducible rfl
            simp only [Act.put, List.setIfInBounds_toArray, List.set_cons_zero, List.set_cons_succ]
            refine takeH (i := 24) (d := some 94) (v := ?_) rfl rfl (by kernel_rfl) (by kernel_rfl) (by kernel_rfl) (fun _ _ _ h => h) (Or.inl ⟨by rfl, ?_⟩) hHeld ?_
            rotate_left
            · intro w' hSw; (try dsimp only at hSw); go_simp; try with_reducible rfl
            simp only [Act.put, List.setIfInBounds_toArray, List.set_cons_zero, List.set_cons_succ]
            refine takeH (i := 25) (d := some 95) (v := ?_) rfl rfl (by kernel_rfl) (by kernel_rfl) (by kernel_rfl) (fun _ _ _ h => h) (Or.inl ⟨by rfl, ?_⟩) hHeld ?_
            rotate_left
            · intro w' hSw; (try dsimp only at hSw); go_simp; try with_reducible rfl
            simp only [Act.put, List.setIfInBounds_toArray, List.set_cons_zero, List.set_cons_succ]
            refine takeH (i := 26) (d := some 96) (v := ?_) rfl rfl (by kernel_rfl) (by kernel_rfl) (by kernel_rfl) (fun _ _ _ h => h) (Or.inl ⟨by rfl, ?_⟩) hHeld ?_
            rotate_left
            · intro w' hSw; (try dsimp only at hSw); go_simp; try with_reducible rfl
            simp only [Act.put, List.setIfInBounds_toArray, List.set_cons_zero, List.set_cons_succ]
            refine takeH (i := 28) (d := some 98) (v := ?_) rfl rfl (by kernel_rfl) (by kernel_rfl) (by kernel_rfl) (fun _ _ _ h => h) (Or.inl ⟨by rfl, ?_⟩) hHeld ?_
            rotate_left
            · intro w' hSw; (try dsimp only at hSw); go_simp; try with_reducible rfl
            simp only [Act.put, List.setIfInBounds_toArray, List.set_cons_zero, List.set_cons_succ]
            refine takeH (i := 29) (d := some 99) (v := ?_) rfl rfl (by kernel_rfl) (by kernel_rfl) (by kernel_rfl) (fun _ _ _ h => h) (Or.inl ⟨by rfl, ?_⟩) hHeld ?_
            rotate_left
            · intro w' hSw; (try dsimp only at hSw); go_simp; try with_reducible rfl
            simp only [Act.put, List.setIfInBounds_toArray, List.set_cons_zero, List.set_cons_succ]
            refine takeH (i := 30) (d := some 100) (v := ?_) rfl rfl (by kernel_rfl) (by kernel_rfl) (by kernel_rfl) (fun _ _ _ h => h) (Or.inl ⟨by rfl, ?_⟩) hHeld ?_
            rotate_left
            · intro w' hSw; (try dsimp only at hSw); go_simp; try with_reducible rfl
            simp only [Act.put, List.setIfInBounds_toArray, List.set_cons_zero, List.set_cons_succ]
            refine takeH (i := 32) (d := some 102) (v := ?_) rfl rfl (by kernel_rfl) (by kernel_rfl) (by kernel_rfl) (fun _ _ _ h => h) (Or.inl ⟨by rfl, ?_⟩) hHeld ?_
            rotate_left
            · intro w' hSw; (try dsimp only at hSw); go_simp; try with_reducible rfl
            simp only [Act.put, List.setIfInBounds_toArray, List.set_cons_zero, List.set_cons_succ]
            refine takeH (i := 33) (d := some 103) (v := ?_) rfl rfl (by kernel_rfl) (by kernel_rfl) (by kernel_rfl) (fun _ _ _ h => h) (Or.inl ⟨by rfl, ?_⟩) hHeld ?_
            rotate_left
            · intro w' hSw; (try dsimp only at hSw); go_simp; try with_reducible rfl
            simp only [Act.put, List.setIfInBounds_toArray, List.set_cons_zero, List.set_cons_succ]
            refine takeH (i := 34) (d := some 104) (v := ?_) rfl rfl (by kernel_rfl) (by kernel_rfl) (by kernel_rfl) (fun _ _ _ h => h) (Or.inl ⟨by rfl, ?_⟩) hHeld ?_
            rotate_left
            · intro w' hSw; (try dsimp only at hSw); go_simp; try with_reducible rfl
            simp only [Act.put, List.setIfInBounds_toArray, List.set_cons_zero, List.set_cons_succ]
            refine wpAnyH_ready (rs := [3, 43]) (by kernel_rfl) (by simp) ?_
            refine AllReadyH.cons rfl (fun K hK => ?_) (AllReadyH.cons rfl (fun K hK => ?_) AllReadyH.nil)
            · go_simp
              refine (NA.out _).mono ?_
              rintro e y1 ⟨rfl, hb1⟩
              have Q_1 := Lib.hid (hHeld.out.keep hb1)
              have b_1 := b_a.trans (hb1.mono b_a.size)
              clear hb1 hHeld
              refine hK.out _ _ Q_1 (fun hHeld => ?_)
              clear hK K
              try simp only [Act.put, List.setIfInBounds_toArray, List.set_cons_zero, List.set_cons_succ]
              refine takeH (i := 4) (d := some 74) (v := ?_) rfl rfl (by kernel_rfl) (by kernel_rfl) (by kernel_rfl) (fun _ _ _ h => h) (Or.inl ⟨by rfl, ?_⟩) hHeld ?_
              rotate_left
              · intro w' hSw; (try dsimp only at hSw); go_simp; try with_reducible rfl
              simp only [Act.put, List.setIfInBounds_toArray, List.set_cons_zero, List.set_cons_succ]
              refine takeH (i := 5) (d := some 75) (v := ?_) rfl rfl (by kernel_rfl) (by kernel_rfl) (by kernel_rfl) (fun _ _ _ h => h) (Or.inl ⟨by rfl, ?_⟩) hHeld ?_
              rotate_left
              · intro w' hSw; (try dsimp only at hSw); go_simp; try with_reducible rfl
              simp only [Act.put, List.setIfInBounds_toArray, List.set_cons_zero, List.set_cons_succ]
              refine wpAnyH_ready (rs := [9, 43]) (by kernel_rfl) (by simp) ?_
              refine AllReadyH.cons rfl (fun K hK => ?_) (AllReadyH.cons rfl (fun K hK => ?_) AllReadyH.nil)
              · go_simp
                refine (NB.out _).mono ?_
                rintro e y2 ⟨rfl, hb2⟩
                have Q_2 := Lib.hid (hHeld.out.keep hb2)
                have b_2 := b_1.trans (hb2.mono b_1.size)
                clear hb2 hHeld
                refine hK.out _ _ Q_2 (fun hHeld => ?_)
                clear hK K
                try simp only [Act.put, List.setIfInBounds_toArray, List.set_cons_zero, List.set_cons_succ]
                refine takeH (i := 10) (d := some 80) (v := ?_) rfl rfl (by kernel_rfl) (by kernel_rfl) (by kernel_rfl) (fun _ _ _ h => h) (Or.inl ⟨by rfl, ?_⟩) hHeld ?_
                rotate_left
                · intro w' hSw; (try dsimp only at hSw); go_simp; try with_reducible rfl
                simp only [Act.put, List.setIfInBounds_toArray, List.set_cons_zero, List.set_cons_succ]
                refine takeH (i := 11) (d := some 81) (v := ?_) rfl rfl (by kernel_rfl) (by kernel_rfl) (by kernel_rfl) (fun _ _ _ h => h) (Or.inl ⟨by rfl, ?_⟩) hHeld ?_
                rotate_left
                · intro w' hSw; (try dsimp only at hSw); go_simp; try with_reducible rfl
                simp only [Act.put, List.setIfInBounds_toArray, List.set_cons_zero, List.set_cons_succ]
                refine wpAnyH_ready (rs := [14, 43]) (by kernel_rfl) (by simp) ?_
                refine AllReadyH.cons rfl (fun K hK => ?_) (AllReadyH.cons rfl (fun K hK => ?_) AllReadyH.nil)
                · go_simp
                  refine (NC.out _).mono ?_
                  rintro e y3 ⟨rfl, hb3⟩
                  have Q_3 := Lib.hid (hHeld.out.keep hb3)
                  have b_3 := b_2.trans (hb3.mono b_2.size)
                  clear hb3 hHeld
                  refine hK.out _ _ Q_3 (fun hHeld => ?_)
                  clear hK K
                  try simp only [Act.put, List.setIfInBounds_toArray, List.set_cons_zero, List.set_cons_succ]
                  refine takeH (i := 15) (d := some 85) (v := ?_) rfl rfl (by kernel_rfl) (by kernel_rfl) (by kernel_rfl) (fun _ _ _ h => h) (Or.inl ⟨by rfl, ?_⟩) hHeld ?_
                  rotate_left
                  · intro w' hSw; (try dsimp only at hSw); go_simp; try with_reducible rfl
                  simp only [Act.put, List.setIfInBounds_toArray, List.set_cons_zero, List.set_cons_succ]
                  refine wpAnyH_ready (rs := [18, 43]) (by kernel_rfl) (by simp) ?_
                  refine AllReadyH.cons rfl (fun K hK => ?_) (AllReadyH.cons rfl (fun K hK => ?_) AllReadyH.nil)
                  · go_simp
                    refine (ND.out _).mono ?_
                    rintro e y4 ⟨rfl, hb4⟩
                    have Q_4 := Lib.hid (hHeld.out.keep hb4)
                    have b_4 := b_3.trans (hb4.mono b_3.size)
                    clear hb4 hHeld
                    refine hK.out _ _ Q_4 (fun hHeld => ?_)
                    clear hK K
                    try simp only [Act.put, List.setIfInBounds_toArray, List.set_cons_zero, List.set_cons_succ]
                    refine takeH (i := 19) (d := some 89) (v := ?_) rfl rfl (by kernel_rfl) (by kernel_rfl) (by kernel_rfl) (fun _ _ _ h => h) (Or.inl ⟨by rfl, ?_⟩) hHeld ?_
                    rotate_left
                    · intro w' hSw; (try dsimp only at hSw); go_simp; try with_reducible rfl
                    simp only [Act.put, List.setIfInBounds_toArray, List.set_cons_zero, List.set_cons_succ]
                    refine wpAnyH_ready (rs := [37, 43]) (by kernel_rfl) (by simp) ?_
                    refine AllReadyH.cons rfl (fun K hK => ?_) (AllReadyH.cons rfl (fun K hK => ?_) AllReadyH.nil)
                    · go_simp
                      refine (NE.out _).mono ?_
                      rintro e y5 ⟨rfl, hb5⟩
                      have Q_5 := Lib.hid (hHeld.out.keep hb5)
                      have b_5 := b_4.trans (hb5.mono b_4.size)
                      clear hb5 hHeld
                      refine hK.out _ _ Q_5 (fun hHeld => ?_)
                      clear hK K
                      try simp only [Act.put, List.setIfInBounds_toArray, List.set_cons_zero, List.set_cons_succ]
                      refine takeH (i := 38) (d := some 108) (v := ?_) rfl rfl (by kernel_rfl) (by kernel_rfl) (by kernel_rfl) (fun _ _ _ h => h) (Or.inl ⟨by rfl, ?_⟩) hHeld ?_
                      rotate_left
                      · intro w' hSw; (try dsimp only at hSw); go_simp; try with_reducible rfl
                      simp only [Act.put, List.setIfInBounds_toArray, List.set_cons_zero, List.set_cons_succ]
                      refine takeH (i := 42) (d := some 112) (v := ?_) rfl rfl (by kernel_rfl) (by kernel_rfl) (by kernel_rfl) (fun _ _ _ h => h) (Or.inl ⟨by rfl, ?_⟩) hHeld ?_
                      rotate_left
                      · intro w' hSw; (try dsimp only at hSw); go_simp; try with_reducible rfl
                      simp only [Act.put, List.setIfInBounds_toArray, List.set_cons_zero, List.set_cons_succ]
                      refine wpAnyH_ready (rs := [43]) (by kernel_rfl) (by simp) ?_
                      refine AllReadyH.cons rfl (fun K hK => ?_) AllReadyH.nil
                      go_simp
                      have LT_6 := hHeld.out.lt
                      have Q_6 := Lib.hid (hHeld.out.alloc (.cells gzc 26))
                      clear hHeld
                      refine hK.out _ _ Q_6 (fun hHeld => ?_)
                      clear hK K
                      try simp only [Act.put, List.setIfInBounds_toArray, List.set_cons_zero, List.set_cons_succ]
                      have G_6 : Hid (GB y5.heap.size gz (World.alloc (y5) (.cells gzc 26))) := GB.new _ gz
                      have b_6 := b_5.alloc b_5.size (.cells gzc 26)
                      have TH : Hid (World.there (World.alloc (y5) (.cells gzc 26)) (y5.heap.size) 0 13) := G_6.out.there
                      refine wpAnyH_ready (rs := [44]) (by kernel_rfl) (by simp) ?_
                      refine AllReadyH.cons rfl (fun K hK => ?_) AllReadyH.nil
                      rw [if_pos (by rfl)]
                      refine wp_store_mid _ _ _ rfl _ _ (gc ⟨src, (N0 : Int), dst, (N2 : Int), N4, N8, B2, B16, B1, B4, (N14 : Int), 0, Y⟩) rfl rfl TH.out info26 (gc_one _) ?_
                      have QS := Lib.hid (hHeld.out.setOther (Nat.ne_of_lt LT_6) (gc ⟨src, (N0 : Int), dst, (N2 : Int), N4, N8, B2, B16, B1, B4, (N14 : Int), 0, Y⟩).toList)
                      clear hHeld
                      refine hK.out _ _ QS (fun hHeld => ?_)
                      clear hK K
                      try simp only [Act.put, List.setIfInBounds_toArray, List.set_cons_zero, List.set_cons_succ]
                      refine wpAnyH_done (by kernel_rfl) ?_ _
                      try dsimp only
                      try go_wp2_with fail
                      go_meet
                      exact ⟨_, rfl, G_6.out.put _, hHeld.out, LT_6, below_setCells b_6 (Nat.le_of_lt LT_6) _ _⟩
                    · go_simp
                      have LT_7 := hHeld.out.lt
                      have Q_7 := Lib.hid (hHeld.out.alloc (.cells gzc 26))
                      clear hHeld
                      refine hK.out _ _ Q_7 (fun hHeld => ?_)
                      clear hK K
                      try simp only [Act.put, List.setIfInBounds_toArray, List.set_cons_zero, List.set_cons_succ]
                      have G_7 : Hid (GB y4.heap.size gz (World.alloc (y4) (.cells gzc 26))) := GB.new _ gz
                      have b_7 := b_4.alloc b_4.size (.cells gzc 26)
                      refine wpAnyH_ready (rs := [37]) (by kernel_rfl) (by simp) ?_
                      refine AllReadyH.cons rfl (fun K hK => ?_) AllReadyH.nil
                      go_simp
                      refine (NE.out _).mono ?_
                      rintro e y8 ⟨rfl, hb8⟩
                      have Q_8 := Lib.hid (hHeld.out.keep hb8)
                      have G_8 := Lib.hid (G_7.out.keep hb8)
                      have b_8 := b_7.trans (hb8.mono b_7.size)
                      clear hb8 hHeld
                      refine hK.out _ _ Q_8 (fun hHeld => ?_)
                      clear hK K
                      try simp only [Act.put, List.setIfInBounds_toArray, List.set_cons_zero, List.set_cons_succ]
                      refine takeH (i := 38) (d := some 108) (v := ?_) rfl rfl (by kernel_rfl) (by kernel_rfl) (by kernel_rfl) (fun _ _ _ h => h) (Or.inl ⟨by rfl, ?_⟩) hHeld ?_
                      rotate_left
                      · intro w' hSw; (try dsimp only at hSw); go_simp; try with_reducible rfl
                      simp only [Act.put, List.setIfInBounds_toArray, List.set_cons_zero, List.set_cons_succ]
                      refine takeH (i := 42) (d := some 112) (v := ?_) rfl rfl (by kernel_rfl) (by kernel_rfl) (by kernel_rfl) (fun _ _ _ h => h) (Or.inl ⟨by rfl, ?_⟩) hHeld ?_
                      rotate_left
                      · intro w' hSw; (try dsimp only at hSw); go_simp; try with_reducible rfl
                      simp only [Act.put, List.setIfInBounds_toArray, List.set_cons_zero, List.set_cons_succ]
                      have TH : Hid (World.there (y8) (y4.heap.size) 0 13) := G_8.out.there
                      refine wpAnyH_ready (rs := [44]) (by kernel_rfl) (by simp) ?_
                      refine AllReadyH.cons rfl (fun K hK => ?_) AllReadyH.nil
                      rw [if_pos (by rfl)]
                      refine wp_store_mid _ _ _ rfl _ _ (gc ⟨src, (N0 : Int), dst, (N2 : Int), N4, N8, B2, B16, B1, B4, (N14 : Int), 0, Y⟩) rfl rfl TH.out info26 (gc_one _) ?_
                      have QS := Lib.hid (hHeld.out.setOther (Nat.ne_of_lt LT_7) (gc ⟨src, (N0 : Int), dst, (N2 : Int), N4, N8, B2, B16, B1, B4, (N14 : Int), 0, Y⟩).toList)
                      clear hHeld
                      refine hK.out _ _ QS (fun hHeld => ?_)
                      clear hK K
                      try simp only [Act.put, List.setIfInBounds_toArray, List.set_cons_zero, List.set_cons_succ]
                      refine wpAnyH_done (by kernel_rfl) ?_ _
                      try dsimp only
                      try go_wp2_with fail
                      go_meet
                      exact ⟨_, rfl, G_8.out.put _, hHeld.out, LT_7, below_setCells b_8 (Nat.le_of_lt LT_7) _ _⟩
                  · go_simp
                    have LT_9 := hHeld.out.lt
                    have Q_9 := Lib.hid (hHeld.out.alloc (.cells gzc 26))
                    clear hHeld
                    refine hK.out _ _ Q_9 (fun hHeld => ?_)
                    clear hK K
                    try simp only [Act.put, List.setIfInBounds_toArray, List.set_cons_zero, List.set_cons_succ]
                    have G_9 : Hid (GB y3.heap.size gz (World.alloc (y3) (.cells gzc 26))) := GB.new _ gz
                    have b_9 := b_3.alloc b_3.size (.cells gzc 26)
                    refine wpAnyH_ready (rs := [18]) (by kernel_rfl) (by simp) ?_
                    refine AllReadyH.cons rfl (fun K hK => ?_) AllReadyH.nil
                    go_simp
                    refine (ND.out _).mono ?_
                    rintro e y10 ⟨rfl, hb10⟩
                    have Q_10 := Lib.hid (hHeld.out.keep hb10)
                    have G_10 := Lib.hid (G_9.out.keep hb10)
                    have b_10 := b_9.trans (hb10.mono b_9.size)
                    clear hb10 hHeld
                    refine hK.out _ _ Q_10 (fun hHeld => ?_)
                    clear hK K
                    try simp only [Act.put, List.setIfInBounds_toArray, List.set_cons_zero, List.set_cons_succ]
                    refine takeH (i := 19) (d := some 89) (v := ?_) rfl rfl (by kernel_rfl) (by kernel_rfl) (by kernel_rfl) (fun _ _ _ h => h) (Or.inl ⟨by rfl, ?_⟩) hHeld ?_
                    rotate_left
                    · intro w' hSw; (try dsimp only at hSw); go_simp; try with_reducible rfl
                    simp only [Act.put, List.setIfInBounds_toArray, List.set_cons_zero, List.set_cons_succ]
                    refine wpAnyH_ready (rs := [37]) (by kernel_rfl) (by simp) ?_
                    refine AllReadyH.cons rfl (fun K hK => ?_) AllReadyH.nil
                    go_simp
                    refine (NE.out _).mono ?_
                    rintro e y11 ⟨rfl, hb11⟩
                    have Q_11 := Lib.hid (hHeld.out.keep hb11)
                    have G_11 := Lib.hid (G_10.out.keep hb11)
                    have b_11 := b_10.trans (hb11.mono b_10.size)
                    clear hb11 hHeld
                    refine hK.out _ _ Q_11 (fun hHeld => ?_)
                    clear hK K
                    try simp only [Act.put, List.setIfInBounds_toArray, List.set_cons_zero, List.set_cons_succ]
                    refine takeH (i := 38) (d := some 108) (v := ?_) rfl rfl (by kernel_rfl) (by kernel_rfl) (by kernel_rfl) (fun _ _ _ h => h) (Or.inl ⟨by rfl, ?_⟩) hHeld ?_
                    rotate_left
                    · intro w' hSw; (try dsimp only at hSw); go_simp; try with_reducible rfl
                    simp only [Act.put, List.setIfInBounds_toArray, List.set_cons_zero, List.set_cons_succ]
                    refine takeH (i := 42) (d := some 112) (v := ?_) rfl rfl (by kernel_rfl) (by kernel_rfl) (by kernel_rfl) (fun _ _ _ h => h) (Or.inl ⟨by rfl, ?_⟩) hHeld ?_
                    rotate_left
                    · intro w' hSw; (try dsimp only at hSw); go_simp; try with_reducible rfl
                    simp only [Act.put, List.setIfInBounds_toArray, List.set_cons_zero, List.set_cons_succ]
                    have TH : Hid (World.there (y11) (y3.heap.size) 0 13) := G_11.out.there
                    refine wpAnyH_ready (rs := [44]) (by kernel_rfl) (by simp) ?_
                    refine AllReadyH.cons rfl (fun K hK => ?_) AllReadyH.nil
                    rw [if_pos (by rfl)]
                    refine wp_store_mid _ _ _ rfl _ _ (gc ⟨src, (N0 : Int), dst, (N2 : Int), N4, N8, B2, B16, B1, B4, (N14 : Int), 0, Y⟩) rfl rfl TH.out info26 (gc_one _) ?_
                    have QS := Lib.hid (hHeld.out.setOther (Nat.ne_of_lt LT_9) (gc ⟨src, (N0 : Int), dst, (N2 : Int), N4, N8, B2, B16, B1, B4, (N14 : Int), 0, Y⟩).toList)
                    clear hHeld
                    refine hK.out _ _ QS (fun hHeld => ?_)
                    clear hK K
                    try simp only [Act.put, List.setIfInBounds_toArray, List.set_cons_zero, List.set_cons_succ]
                    refine wpAnyH_done (by kernel_rfl) ?_ _
                    try dsimp only
                    try go_wp2_with fail
                    go_meet
                    exact ⟨_, rfl, G_11.out.put _, hHeld.out, LT_9, below_setCells b_11 (Nat.le_of_lt LT_9) _ _⟩
                · go_simp
                  have LT_12 := hHeld.out.lt
                  have Q_12 := Lib.hid (hHeld.out.alloc (.cells gzc 26))
                  clear hHeld
                  refine hK.out _ _ Q_12 (fun hHeld => ?_)
                  clear hK K
                  try simp only [Act.put, List.setIfInBounds_toArray, List.set_cons_zero, List.set_cons_succ]
                  have G_12 : Hid (GB y2.heap.size gz (World.alloc (y2) (.cells gzc 26))) := GB.new _ gz
                  have b_12 := b_2.alloc b_2.size (.cells gzc 26)
                  refine wpAnyH_ready (rs := [14]) (by kernel_rfl) (by simp) ?_
                  refine AllReadyH.cons rfl (fun K hK => ?_) AllReadyH.nil
                  go_simp
                  refine (NC.out _).mono ?_
                  rintro e y13 ⟨rfl, hb13⟩
                  have Q_13 := Lib.hid (hHeld.out.keep hb13)
                  have G_13 := Lib.hid (G_12.out.keep hb13)
                  have b_13 := b_12.trans (hb13.mono b_12.size)
                  clear hb13 hHeld
                  refine hK.out _ _ Q_13 (fun hHeld => ?_)
                  clear hK K
                  try simp only [Act.put, List.setIfInBounds_toArray, List.set_cons_zero, List.set_cons_succ]
                  refine takeH (i := 15) (d := some 85) (v := ?_) rfl rfl (by kernel_rfl) (by kernel_rfl) (by kernel_rfl) (fun _ _ _ h => h) (Or.inl ⟨by rfl, ?_⟩) hHeld ?_
                  rotate_left
                  · intro w' hSw; (try dsimp only at hSw); go_simp; try with_reducible rfl
                  simp only [Act.put, List.setIfInBounds_toArray, List.set_cons_zero, List.set_cons_succ]
                  refine wpAnyH_ready (rs := [18]) (by kernel_rfl) (by simp) ?_
                  refine AllReadyH.cons rfl (fun K hK => ?_) AllReadyH.nil
                  go_simp
                  refine (ND.out _).mono ?_
                  rintro e y14 ⟨rfl, hb14⟩
                  have Q_14 := Lib.hid (hHeld.out.keep hb14)
                  have G_14 := Lib.hid (G_13.out.keep hb14)
                  have b_14 := b_13.trans (hb14.mono b_13.size)
                  clear hb14 hHeld
                  refine hK.out _ _ Q_14 (fun hHeld => ?_)
                  clear hK K
                  try simp only [Act.put, List.setIfInBounds_toArray, List.set_cons_zero, List.set_cons_succ]
                  refine takeH (i := 19) (d := some 89) (v := ?_) rfl rfl (by kernel_rfl) (by kernel_rfl) (by kernel_rfl) (fun _ _ _ h => h) (Or.inl ⟨by rfl, ?_⟩) hHeld ?_
                  rotate_left
                  · intro w' hSw; (try dsimp only at hSw); go_simp; try with_reducible rfl
                  simp only [Act.put, List.setIfInBounds_toArray, List.set_cons_zero, List.set_cons_succ]
                  refine wpAnyH_ready (rs := [37]) (by kernel_rfl) (by simp) ?_
                  refine AllReadyH.cons rfl (fun K hK => ?_) AllReadyH.nil
                  go_simp
                  refine (NE.out _).mono ?_
                  rintro e y15 ⟨rfl, hb15⟩
                  have Q_15 := Lib.hid (hHeld.out.keep hb15)
                  have G_15 := Lib.hid (G_14.out.keep hb15)
                  have b_15 := b_14.trans (hb15.mono b_14.size)
                  clear hb15 hHeld
                  refine hK.out _ _ Q_15 (fun hHeld => ?_)
                  clear hK K
                  try simp only [Act.put, List.setIfInBounds_toArray, List.set_cons_zero, List.set_cons_succ]
                  refine takeH (i := 38) (d := some 108) (v := ?_) rfl rfl (by kernel_rfl) (by kernel_rfl) (by kernel_rfl) (fun _ _ _ h => h) (Or.inl ⟨by rfl, ?_⟩) hHeld ?_
                  rotate_left
                  · intro w' hSw; (try dsimp only at hSw); go_simp; try with_reducible rfl
                  simp only [Act.put, List.setIfInBounds_toArray, List.set_cons_zero, List.set_cons_succ]
                  refine takeH (i := 42) (d := some 112) (v := ?_) rfl rfl (by kernel_rfl) (by kernel_rfl) (by kernel_rfl) (fun _ _ _ h => h) (Or.inl ⟨by rfl, ?_⟩) hHeld ?_
                  rotate_left
                  · intro w' hSw; (try dsimp only at hSw); go_simp; try with_reducible rfl
                  simp only [Act.put, List.setIfInBounds_toArray, List.set_cons_zero, List.set_cons_succ]
                  have TH : Hid (World.there (y15) (y2.heap.size) 0 13) := G_15.out.there
                  refine wpAnyH_ready (rs := [44]) (by kernel_rfl) (by simp) ?_
                  refine AllReadyH.cons rfl (fun K hK => ?_) AllReadyH.nil
                  rw [if_pos (by rfl)]
                  refine wp_store_mid _ _ _ rfl _ _ (gc ⟨src, (N0 : Int), dst, (N2 : Int), N4, N8, B2, B16, B1, B4, (N14 : Int), 0, Y⟩) rfl rfl TH.out info26 (gc_one _) ?_
                  have QS := Lib.hid (hHeld.out.setOther (Nat.ne_of_lt LT_12) (gc ⟨src, (N0 : Int), dst, (N2 : Int), N4, N8, B2, B16, B1, B4, (N14 : Int), 0, Y⟩).toList)
                  clear hHeld
                  refine hK.out _ _ QS (fun hHeld => ?_)
                  clear hK K
                  try simp only [Act.put, List.setIfInBounds_toArray, List.set_cons_zero, List.set_cons_succ]
                  refine wpAnyH_done (by kernel_rfl) ?_ _
                  try dsimp only
                  try go_wp2_with fail
                  go_meet
                  exact ⟨_, rfl, G_15.out.put _, hHeld.out, LT_12, below_setCells b_15 (Nat.le_of_lt LT_12) _ _⟩
              · go_simp
                have LT_16 := hHeld.out.lt
                have Q_16 := Lib.hid (hHeld.out.alloc (.cells gzc 26))
                clear hHeld
                refine hK.out _ _ Q_16 (fun hHeld => ?_)
                clear hK K
                try simp only [Act.put, List.setIfInBounds_toArray, List.set_cons_zero, List.set_cons_succ]
                have G_16 : Hid (GB y1.heap.size gz (World.alloc (y1) (.cells gzc 26))) := GB.new _ gz
                have b_16 := b_1.alloc b_1.size (.cells gzc 26)
                refine wpAnyH_ready (rs := [9]) (by kernel_rfl) (by simp) ?_
                refine AllReadyH.cons rfl (fun K hK => ?_) AllReadyH.nil
                go_simp
                refine (NB.out _).mono ?_
                rintro e y17 ⟨rfl, hb17⟩
                have Q_17 := Lib.hid (hHeld.out.keep hb17)
                have G_17 := Lib.hid (G_16.out.keep hb17)
                have b_17 := b_16.trans (hb17.mono b_16.size)
                clear hb17 hHeld
                refine hK.out _ _ Q_17 (fun hHeld => ?_)
                clear hK K
                try simp only [Act.put, List.setIfInBounds_toArray, List.set_cons_zero, List.set_cons_succ]
                refine takeH (i := 10) (d := some 80) (v := ?_) rfl rfl (by kernel_rfl) (by kernel_rfl) (by kernel_rfl) (fun _ _ _ h => h) (Or.inl ⟨by rfl, ?_⟩) hHeld ?_
                rotate_left
                · intro w' hSw; (try dsimp only at hSw); go_simp; try with_reducible rfl
                simp only [Act.put, List.setIfInBounds_toArray, List.set_cons_zero, List.set_cons_succ]
                refine takeH (i := 11) (d := some 81) (v := ?_) rfl rfl (by kernel_rfl) (by kernel_rfl) (by kernel_rfl) (fun _ _ _ h => h) (Or.inl ⟨by rfl, ?_⟩) hHeld ?_
                rotate_left
                · intro w' hSw; (try dsimp only at hSw); go_simp; try with_reducible rfl
                simp only [Act.put, List.setIfInBounds_toArray, List.set_cons_zero, List.set_cons_succ]
                refine wpAnyH_ready (rs := [14]) (by kernel_rfl) (by simp) ?_
                refine AllReadyH.cons rfl (fun K hK => ?_) AllReadyH.nil
                go_simp
                refine (NC.out _).mono ?_
                rintro e y18 ⟨rfl, hb18⟩
                have Q_18 := Lib.hid (hHeld.out.keep hb18)
                have G_18 := Lib.hid (G_17.out.keep hb18)
                have b_18 := b_17.trans (hb18.mono b_17.size)
                clear hb18 hHeld
                refine hK.out _ _ Q_18 (fun hHeld => ?_)
                clear hK K
                try simp only [Act.put, List.setIfInBounds_toArray, List.set_cons_zero, List.set_cons_succ]
                refine takeH (i := 15) (d := some 85) (v := ?_) rfl rfl (by kernel_rfl) (by kernel_rfl) (by kernel_rfl) (fun _ _ _ h => h) (Or.inl ⟨by rfl, ?_⟩) hHeld ?_
                rotate_left
                · intro w' hSw; (try dsimp only at hSw); go_simp; try with_reducible rfl
                simp only [Act.put, List.setIfInBounds_toArray, List.set_cons_zero, List.set_cons_succ]
                refine wpAnyH_ready (rs := [18]) (by kernel_rfl) (by simp) ?_
                refine AllReadyH.cons rfl (fun K hK => ?_) AllReadyH.nil
                go_simp
                refine (ND.out _).mono ?_
                rintro e y19 ⟨rfl, hb19⟩
                have Q_19 := Lib.hid (hHeld.out.keep hb19)
                have G_19 := Lib.hid (G_18.out.keep hb19)
                have b_19 := b_18.trans (hb19.mono b_18.size)
                clear hb19 hHeld
                refine hK.out _ _ Q_19 (fun hHeld => ?_)
                clear hK K
                try simp only [Act.put, List.setIfInBounds_toArray, List.set_cons_zero, List.set_cons_succ]
                refine takeH (i := 19) (d := some 89) (v := ?_) rfl rfl (by kernel_rfl) (by kernel_rfl) (by kernel_rfl) (fun _ _ _ h => h) (Or.inl ⟨by rfl, ?_⟩) hHeld ?_
                rotate_left
                · intro w' hSw; (try dsimp only at hSw); go_simp; try with_reducible rfl
                simp only [Act.put, List.setIfInBounds_toArray, List.set_cons_zero, List.set_cons_succ]
                refine wpAnyH_ready (rs := [37]) (by kernel_rfl) (by simp) ?_
                refine AllReadyH.cons rfl (fun K hK => ?_) AllReadyH.nil
                go_simp
                refine (NE.out _).mono ?_
                rintro e y20 ⟨rfl, hb20⟩
                have Q_20 := Lib.hid (hHeld.out.keep hb20)
                have G_20 := Lib.hid (G_19.out.keep hb20)
                have b_20 := b_19.trans (hb20.mono b_19.size)
                clear hb20 hHeld
                refine hK.out _ _ Q_20 (fun hHeld => ?_)
                clear hK K
                try simp only [Act.put, List.setIfInBounds_toArray, List.set_cons_zero, List.set_cons_succ]
                refine takeH (i := 38) (d := some 108) (v := ?_) rfl rfl (by kernel_rfl) (by kernel_rfl) (by kernel_rfl) (fun _ _ _ h => h) (Or.inl ⟨by rfl, ?_⟩) hHeld ?_
                rotate_left
                · intro w' hSw; (try dsimp only at hSw); go_simp; try with_reducible rfl
                simp only [Act.put, List.setIfInBounds_toArray, List.set_cons_zero, List.set_cons_succ]
                refine takeH (i := 42) (d := some 112) (v := ?_) rfl rfl (by kernel_rfl) (by kernel_rfl) (by kernel_rfl) (fun _ _ _ h => h) (Or.inl ⟨by rfl, ?_⟩) hHeld ?_
                rotate_left
                · intro w' hSw; (try dsimp only at hSw); go_simp; try with_reducible rfl
                simp only [Act.put, List.setIfInBounds_toArray, List.set_cons_zero, List.set_cons_succ]
                have TH : Hid (World.there (y20) (y1.heap.size) 0 13) := G_20.out.there
                refine wpAnyH_ready (rs := [44]) (by kernel_rfl) (by simp) ?_
                refine AllReadyH.cons rfl (fun K hK => ?_) AllReadyH.nil
                rw [if_pos (by rfl)]
                refine wp_store_mid _ _ _ rfl _ _ (gc ⟨src, (N0 : Int), dst, (N2 : Int), N4, N8, B2, B16, B1, B4, (N14 : Int), 0, Y⟩) rfl rfl TH.out info26 (gc_one _) ?_
                have QS := Lib.hid (hHeld.out.setOther (Nat.ne_of_lt LT_16) (gc ⟨src, (N0 : Int), dst, (N2 : Int), N4, N8, B2, B16, B1, B4, (N14 : Int), 0, Y⟩).toList)
                clear hHeld
                refine hK.out _ _ QS (fun hHeld => ?_)
                clear hK K
                try simp only [Act.put, List.setIfInBounds_toArray, List.set_cons_zero, List.set_cons_succ]
                refine wpAnyH_done (by kernel_rfl) ?_ _
                try dsimp only
                try go_wp2_with fail
                go_meet
                exact ⟨_, rfl, G_20.out.put _, hHeld.out, LT_16, below_setCells b_20 (Nat.le_of_lt LT_16) _ _⟩
            · go_simp
              have LT_21 := hHeld.out.lt
              have Q_21 := Lib.hid (hHeld.out.alloc (.cells gzc 26))
              clear hHeld
              refine hK.out _ _ Q_21 (fun hHeld => ?_)
              clear hK K
              try simp only [Act.put, List.setIfInBounds_toArray, List.set_cons_zero, List.set_cons_succ]
              have G_21 : Hid (GB w4.heap.size gz (World.alloc (w4.drew) (.cells gzc 26))) := GB.new _ gz
              have b_21 := b_a.alloc b_a.size (.cells gzc 26)
              refine wpAnyH_ready (rs := [3]) (by kernel_rfl) (by simp) ?_
              refine AllReadyH.cons rfl (fun K hK => ?_) AllReadyH.nil
              go_simp
              refine (NA.out _).mono ?_
              rintro e y22 ⟨rfl, hb22⟩
              have Q_22 := Lib.hid (hHeld.out.keep hb22)
              have G_22 := Lib.hid (G_21.out.keep hb22)
              have b_22 := b_21.trans (hb22.mono b_21.size)
              clear hb22 hHeld
              refine hK.out _ _ Q_22 (fun hHeld => ?_)
              clear hK K
              try simp only [Act.put, List.setIfInBounds_toArray, List.set_cons_zero, List.set_cons_succ]
              refine takeH (i := 4) (d := some 74) (v := ?_) rfl rfl (by kernel_rfl) (by kernel_rfl) (by kernel_rfl) (fun _ _ _ h => h) (Or.inl ⟨by rfl, ?_⟩) hHeld ?_
              rotate_left
              · intro w' hSw; (try dsimp only at hSw); go_simp; try with_reducible rfl
              simp only [Act.put, List.setIfInBounds_toArray, List.set_cons_zero, List.set_cons_succ]
              refine takeH (i := 5) (d := some 75) (v := ?_) rfl rfl (by kernel_rfl) (by kernel_rfl) (by kernel_rfl) (fun _ _ _ h => h) (Or.inl ⟨by rfl, ?_⟩) hHeld ?_
              rotate_left
              · intro w' hSw; (try dsimp only at hSw); go_simp; try with_reducible rfl
              simp only [Act.put, List.setIfInBounds_toArray, List.set_cons_zero, List.set_cons_succ]
              refine wpAnyH_ready (rs := [9]) (by kernel_rfl) (by simp) ?_
              refine AllReadyH.cons rfl (fun K hK => ?_) AllReadyH.nil
              go_simp
              refine (NB.out _).mono ?_
              rintro e y23 ⟨rfl, hb23⟩
              have Q_23 := Lib.hid (hHeld.out.keep hb23)
              have G_23 := Lib.hid (G_22.out.keep hb23)
              have b_23 := b_22.trans (hb23.mono b_22.size)
              clear hb23 hHeld
              refine hK.out _ _ Q_23 (fun hHeld => ?_)
              clear hK K
              try simp only [Act.put, List.setIfInBounds_toArray, List.set_cons_zero, List.set_cons_succ]
              refine takeH (i := 10) (d := some 80) (v := ?_) rfl rfl (by kernel_rfl) (by kernel_rfl) (by kernel_rfl) (fun _ _ _ h => h) (Or.inl ⟨by rfl, ?_⟩) hHeld ?_
              rotate_left
              · intro w' hSw; (try dsimp only at hSw); go_simp; try with_reducible rfl
              simp only [Act.put, List.setIfInBounds_toArray, List.set_cons_zero, List.set_cons_succ]
              refine takeH (i := 11) (d := some 81) (v := ?_) rfl rfl (by kernel_rfl) (by kernel_rfl) (by kernel_rfl) (fun _ _ _ h => h) (Or.inl ⟨by rfl, ?_⟩) hHeld ?_
              rotate_left
              · intro w' hSw; (try dsimp only at hSw); go_simp; try with_reducible rfl
              simp only [Act.put, List.setIfInBounds_toArray, List.set_cons_zero, List.set_cons_succ]
              refine wpAnyH_ready (rs := [14]) (by kernel_rfl) (by simp) ?_
              refine AllReadyH.cons rfl (fun K hK => ?_) AllReadyH.nil
              go_simp
              refine (NC.out _).mono ?_
              rintro e y24 ⟨rfl, hb24⟩
              have Q_24 := Lib.hid (hHeld.out.keep hb24)
              have G_24 := Lib.hid (G_23.out.keep hb24)
              have b_24 := b_23.trans (hb24.mono b_23.size)
              clear hb24 hHeld
              refine hK.out _ _ Q_24 (fun hHeld => ?_)
              clear hK K
              try simp only [Act.put, List.setIfInBounds_toArray, List.set_cons_zero, List.set_cons_succ]
              refine takeH (i := 15) (d := some 85) (v := ?_) rfl rfl (by kernel_rfl) (by kernel_rfl) (by kernel_rfl) (fun _ _ _ h => h) (Or.inl ⟨by rfl, ?_⟩) hHeld ?_
              rotate_left
              · intro w' hSw; (try dsimp only at hSw); go_simp; try with_reducible rfl
              simp only [Act.put, List.setIfInBounds_toArray, List.set_cons_zero, List.set_cons_succ]
              refine wpAnyH_ready (rs := [18]) (by kernel_rfl) (by simp) ?_
              refine AllReadyH.cons rfl (fun K hK => ?_) AllReadyH.nil
              go_simp
              refine (ND.out _).mono ?_
              rintro e y25 ⟨rfl, hb25⟩
              have Q_25 := Lib.hid (hHeld.out.keep hb25)
              have G_25 := Lib.hid (G_24.out.keep hb25)
              have b_25 := b_24.trans (hb25.mono b_24.size)
              clear hb25 hHeld
              refine hK.out _ _ Q_25 (fun hHeld => ?_)
              clear hK K
              try simp only [Act.put, List.setIfInBounds_toArray, List.set_cons_zero, List.set_cons_succ]
              refine takeH (i := 19) (d := some 89) (v := ?_) rfl rfl (by kernel_rfl) (by kernel_rfl) (by kernel_rfl) (fun _ _ _ h => h) (Or.inl ⟨by rfl, ?_⟩) hHeld ?_
              rotate_left
              · intro w' hSw; (try dsimp only at hSw); go_simp; try with_reducible rfl
              simp only [Act.put, List.setIfInBounds_toArray, List.set_cons_zero, List.set_cons_succ]
              refine wpAnyH_ready (rs := [37]) (by kernel_rfl) (by simp) ?_
              refine AllReadyH.cons rfl (fun K hK => ?_) AllReadyH.nil
              go_simp
              refine (NE.out _).mono ?_
              rintro e y26 ⟨rfl, hb26⟩
              have Q_26 := Lib.hid (hHeld.out.keep hb26)
              have G_26 := Lib.hid (G_25.out.keep hb26)
              have b_26 := b_25.trans (hb26.mono b_25.size)
              clear hb26 hHeld
              refine hK.out _ _ Q_26 (fun hHeld => ?_)
              clear hK K
              try simp only [Act.put, List.setIfInBounds_toArray, List.set_cons_zero, List.set_cons_succ]
              refine takeH (i := 38) (d := some 108) (v := ?_) rfl rfl (by kernel_rfl) (by kernel_rfl) (by kernel_rfl) (fun _ _ _ h => h) (Or.inl ⟨by rfl, ?_⟩) hHeld ?_
              rotate_left
              · intro w' hSw; (try dsimp only at hSw); go_simp; try with_reducible rfl
              simp only [Act.put, List.setIfInBounds_toArray, List.set_cons_zero, List.set_cons_succ]
              refine takeH (i := 42) (d := some 112) (v := ?_) rfl rfl (by kernel_rfl) (by kernel_rfl) (by kernel_rfl) (fun _ _ _ h => h) (Or.inl ⟨by rfl, ?_⟩) hHeld ?_
              rotate_left
              · intro w' hSw; (try dsimp only at hSw); go_simp; try with_reducible rfl
              simp only [Act.put, List.setIfInBounds_toArray, List.set_cons_zero, List.set_cons_succ]
              have TH : Hid (World.there (y26) (w4.heap.size) 0 13) := G_26.out.there
              refine wpAnyH_ready (rs := [44]) (by kernel_rfl) (by simp) ?_
              refine AllReadyH.cons rfl (fun K hK => ?_) AllReadyH.nil
              rw [if_pos (by rfl)]
              refine wp_store_mid _ _ _ rfl _ _ (gc ⟨src, (N0 : Int), dst, (N2 : Int), N4, N8, B2, B16, B1, B4, (N14 : Int), 0, Y⟩) rfl rfl TH.out info26 (gc_one _) ?_
              have QS := Lib.hid (hHeld.out.setOther (Nat.ne_of_lt LT_21) (gc ⟨src, (N0 : Int), dst, (N2 : Int), N4, N8, B2, B16, B1, B4, (N14 : Int), 0, Y⟩).toList)
              clear hHeld
              refine hK.out _ _ QS (fun hHeld => ?_)
              clear hK K
              try simp only [Act.put, List.setIfInBounds_toArray, List.set_cons_zero, List.set_cons_succ]
              refine wpAnyH_done (by kernel_rfl) ?_ _
              try dsimp only
              try go_wp2_with fail
              go_meet
              exact ⟨_, rfl, G_26.out.put _, hHeld.out, LT_21, below_setCells b_26 (Nat.le_of_lt LT_21) _ _⟩
          case rest =>
            obtain ⟨n, rfl, Q0, P0, hn, b0⟩ := hcut
            have PS := Lib.hid (⟨Q0, P0, b0⟩ : GB n ⟨src, (N0 : Int), dst, (N2 : Int), N4, N8, B2, B16, B1, B4, (N14 : Int), 0, Y⟩ wc ∧ GB w.heap.size gz wc ∧ Below w.heap.size w wc)
            clear Q0 P0 b0 P_a b_a d6
            go_wp2
            go_loopw [11] (fun va w' => ∃ m a : Nat, va = .int .i64 (a : Int) ∧ 20 ≤ a ∧ a ≤ T ∧ m ≤ 65535 ∧ Hid (mo s T T a m = R) ∧ GB n ⟨src, (N0 : Int), dst, (N2 : Int), N4, N8, B2, B16, B1, B4, (N14 : Int), (m : Int), Y⟩ w' ∧ GB w.heap.size gz w' ∧ Below w.heap.size w w') (fun va _ => T - (intOf va).toNat)
            case atStart => exact ⟨0, 20, rfl, Nat.le_refl _, hb20, Nat.zero_le _, HRM, PS.out.1, PS.out.2.1, PS.out.2.2⟩
            case round =>
              obtain ⟨m, a, rfl, ha20, haT, hm, HE, Q, P, hb⟩ := hrel
              have QQ := Lib.hid Q
              have PP := Lib.hid P
              by_cases c0 : a < T
              · have d0 : (a : Int) < (T : Int) := by omega
                have i1 := LI.out a c0
                have hK := (bt s a).toNat_lt
                by_cases k0 : bt s a = 0
                · have HRes : Hid (R = some m) := by show _ = _; rw [← HE.out]; exact mo_0 c0 (by omega) k0
                  have d1 : (((bt s a).toNat : Int) == 0) = true := by rw [k0]; rfl
                  clear HE k0 QQ PP
                  generalize ((bt s a).toNat : Int) = KK at *
                  obtain ⟨eG, eE, eZ⟩ := HT.out m HRes.out
                  rw [eG] at Q
                  have Q1 := Lib.hid Q
                  have P1 := Lib.hid P
                  have HEZ : Hid (E = K ∧ Z = if K = 0 then G else gz) := ⟨eE, eZ⟩
                  clear Q P eG eE eZ HT HN HRes
                  have HU := Lib.hid Try.underlying26
                  go_wp2_with (refine wpList_load_mid rfl _ _ rfl _ _ rfl (gcl G) _ Q1.out.range HU.out rfl info26 ?_)
                  refine (HK.out _).mono ?_; rintro e w5 ⟨rfl, hb5⟩
                  have Q5 := Lib.hid (Q1.out.keep hb5)
                  have P5 := Lib.hid (P1.out.keep hb5)
                  have b5 := hb.trans (hb5.mono hb.size)
                  clear Q1 P1 hb hb5
                  by_cases hk : K = 0
                  · subst hk
                    go_wp2_with (first | refine wpList_load_mid rfl _ _ rfl _ _ rfl (gcl G) _ Q5.out.range HU.out rfl info26 ?_ | refine wpList_store_mid rfl _ _ _ rfl _ _ (gc G) rfl rfl P5.out.there info26 (gc_one _) ?_)
                    exact bodyPost_ret (v := .tuple #[gv G, .int .i64 0]) (by simp [results, Try.results15, Act.put, asAddr, told w5 w.heap.size gz G P5.out]) rfl ⟨by rw [HEZ.out.2, HEZ.out.1]; first | rw [if_pos trivial] | rw [if_pos rfl], below_setCells b5 (Nat.le_refl _) _ _⟩
                  · have hne : (K != 0) = true := by simpa using hk
                    go_wp2_with (refine wpList_store_mid rfl _ _ _ rfl _ _ (gc gz) rfl rfl P5.out.there info26 (gc_one gz) ?_)
                    exact bodyPost_ret (v := .tuple #[gv gz, .int .i64 K]) (by simp [results, Try.results15, Act.put, asAddr, told w5 w.heap.size gz gz P5.out]) rfl ⟨by rw [HEZ.out.2, HEZ.out.1, if_neg hk], below_setCells b5 (Nat.le_refl _) _ _⟩
                have d1 : (((bt s a).toNat : Int) == 0) = false := by
                  have := u8_eq (bt s a) 0 (by omega) 0 rfl
                  rw [decide_eq_false k0] at this; exact this
                by_cases k1 : bt s a = 1
                · have HNx : Hid (mo s T T (a + 1) m = R) := by show _ = _; rw [← HE.out]; exact (mo_1 c0 (by omega) k1).symm
                  have d2 : ¬ (1 : Int) < ((bt s a).toNat : Int) := by rw [k1]; decide
                  have v1 : IntKind.i64.wrap ((a : Int) + 1) = ((a + 1 : Nat) : Int) := by rw [IntKind.wrap_i64]; omega
                  clear HE k0 k1 Q P
                  generalize ((bt s a).toNat : Int) = KK at *
                  go_wp2
                  go_roundw
                  case rel => exact ⟨m, a + 1, rfl, by omega, c0, hm, HNx, QQ.out, PP.out, hb⟩
                  case measure => simp [intOf]; omega
                have d2 : (1 : Int) < ((bt s a).toNat : Int) := by
                  have n0 : (bt s a).toNat ≠ 0 := fun x => k0 (UInt8.toNat_inj.1 x)
                  have n1 : (bt s a).toNat ≠ 1 := fun x => k1 (UInt8.toNat_inj.1 x)
                  omega
                have v1 : IntKind.i64.wrap ((a : Int) + 1) = (a : Int) + 1 := by rw [IntKind.wrap_i64]; omega
                by_cases cl : a + 1 = T
                · have HRes : Hid (R = none) := by show _ = _; rw [← HE.out]; exact mo_bad c0 (by omega) k0 k1 (Or.inl (by omega))
                  have d3 : (((a : Int) + 1) == (T : Int)) = true := by rw [beq_iff_eq]; omega
                  clear k0 k1 Q P QQ
                  generalize ((bt s a).toNat : Int) = KK at *
                  have HR := Lib.hid (HN.out HRes.out)
                  clear HT HN HRes HE
                  go_wp2_with (refine wpList_store_mid rfl _ _ _ rfl _ _ (gc gz) rfl rfl PP.out.there info26 (gc_one gz) ?_)
                  exact bodyPost_ret (v := .tuple #[gv gz, .int .i64 4]) (by simp [results, Try.results15, Act.put, asAddr, told wr w.heap.size gz gz PP.out]) rfl ⟨by rw [HR.out.1, HR.out.2], below_setCells hb (Nat.le_refl _) _ _⟩
                have d3 : (((a : Int) + 1) == (T : Int)) = false := by rw [beq_eq_false_iff_ne]; omega
                have i2 := LJ.out a (by omega)
                have hZl := (bt s (a + 1)).toNat_lt
                have v2 : IntKind.i64.wrap ((bt s (a + 1)).toNat : Int) = ((bt s (a + 1)).toNat : Int) := by rw [IntKind.wrap_i64]; omega
                have v3 : IntKind.i64.wrap ((a : Int) + ((bt s (a + 1)).toNat : Int)) = ((a + (bt s (a + 1)).toNat : Nat) : Int) := by rw [IntKind.wrap_i64]; omega
                by_cases c1 : (bt s (a + 1)).toNat < 2
                · have HRes : Hid (R = none) := by show _ = _; rw [← HE.out]; exact mo_bad c0 (by omega) k0 k1 (Or.inr (Or.inl c1))
                  have d4 : ((bt s (a + 1)).toNat : Int) < 2 := by omega
                  clear k0 k1 Q P QQ
                  generalize ((bt s a).toNat : Int) = KK at *
                  generalize (bt s (a + 1)).toNat = ZZ at *
                  have HR := Lib.hid (HN.out HRes.out)
                  clear HT HN HRes HE
                  go_wp2_with (refine wpList_store_mid rfl _ _ _ rfl _ _ (gc gz) rfl rfl PP.out.there info26 (gc_one gz) ?_)
                  exact bodyPost_ret (v := .tuple #[gv gz, .int .i64 4]) (by simp [results, Try.results15, Act.put, asAddr, told wr w.heap.size gz gz PP.out]) rfl ⟨by rw [HR.out.1, HR.out.2], below_setCells hb (Nat.le_refl _) _ _⟩
                have d4 : decide (((bt s (a + 1)).toNat : Int) < 2) = false := by simp; omega
                by_cases c2 : T < a + (bt s (a + 1)).toNat
                · have HRes : Hid (R = none) := by show _ = _; rw [← HE.out]; exact mo_bad c0 (by omega) k0 k1 (Or.inr (Or.inr (Or.inl c2)))
                  have d5 : (T : Int) < ((a + (bt s (a + 1)).toNat : Nat) : Int) := by omega
                  clear k0 k1 Q P QQ
                  generalize ((bt s a).toNat : Int) = KK at *
                  generalize (bt s (a + 1)).toNat = ZZ at *
                  generalize a + ZZ = AZ at *
                  have HR := Lib.hid (HN.out HRes.out)
                  clear HT HN HRes HE
                  go_wp2_with (refine wpList_store_mid rfl _ _ _ rfl _ _ (gc gz) rfl rfl PP.out.there info26 (gc_one gz) ?_)
                  exact bodyPost_ret (v := .tuple #[gv gz, .int .i64 4]) (by simp [results, Try.results15, Act.put, asAddr, told wr w.heap.size gz gz PP.out]) rfl ⟨by rw [HR.out.1, HR.out.2], below_setCells hb (Nat.le_refl _) _ _⟩
                have d5 : decide ((T : Int) < ((a + (bt s (a + 1)).toNat : Nat) : Int)) = false := by simp; omega
                by_cases k2 : bt s a = 2
                · have d6 : (((bt s a).toNat : Int) == 2) = true := by rw [k2]; rfl
                  by_cases c4 : (bt s (a + 1)).toNat ≠ 4
                  · have HRes : Hid (R = none) := by show _ = _; rw [← HE.out]; exact mo_bad c0 (by omega) k0 k1 (Or.inr (Or.inr (Or.inr ⟨k2, c4⟩)))
                    have d7 : (((bt s (a + 1)).toNat : Int) != 4) = true := by simp; omega
                    clear k0 k1 k2 Q P QQ
                    generalize ((bt s a).toNat : Int) = KK at *
                    generalize (bt s (a + 1)).toNat = ZZ at *
                    generalize a + ZZ = AZ at *
                    have HR := Lib.hid (HN.out HRes.out)
                    clear HT HN HRes HE
                    go_wp2_with (refine wpList_store_mid rfl _ _ _ rfl _ _ (gc gz) rfl rfl PP.out.there info26 (gc_one gz) ?_)
                    exact bodyPost_ret (v := .tuple #[gv gz, .int .i64 4]) (by simp [results, Try.results15, Act.put, asAddr, told wr w.heap.size gz gz PP.out]) rfl ⟨by rw [HR.out.1, HR.out.2], below_setCells hb (Nat.le_refl _) _ _⟩
                  · have c4' : (bt s (a + 1)).toNat = 4 := by omega
                    have d7 : (((bt s (a + 1)).toNat : Int) != 4) = false := by simp; omega
                    have hnb : ¬ (T < a + 2 ∨ (bt s (a + 1)).toNat < 2 ∨ T < a + (bt s (a + 1)).toNat ∨ bt s a = 2 ∧ (bt s (a + 1)).toNat ≠ 4) := fun x => by
                      rcases x with x | x | x | x
                      · omega
                      · omega
                      · omega
                      · exact c4 x.2
                    have HNx : Hid (mo s T T (a + (bt s (a + 1)).toNat) (tw s (a + 2)) = R) := by
                      show _ = _
                      rw [← HE.out, mo_go c0 (by omega) k0 k1 hnb, if_pos k2]
                    have s9 := LS.out a (by omega)
                    have LN' := Lib.hid (LN.out a (by omega))
                    have ht := tw_le s (a + 2)
                    have v5 : IntKind.i64.wrap ((a : Int) + 2) = (a : Int) + 2 := by rw [IntKind.wrap_i64]; omega
                    have v6 : IntKind.i64.wrap ((a : Int) + 4) = (a : Int) + 4 := by rw [IntKind.wrap_i64]; omega
                    have v7 : IntKind.i64.wrap (tw s (a + 2) : Int) = (tw s (a + 2) : Int) := by rw [IntKind.wrap_i64]; omega
                    clear k0 k1 k2 hnb HE c4 Q P
                    generalize ((bt s a).toNat : Int) = KK at *
                    generalize (bt s (a + 1)).toNat = ZZ at *
                    generalize s.extract (a + 2) (a + 4) = X9 at *
                    generalize tw s (a + 2) = M9 at *
                    have hz1 : a + ZZ ≤ T := by omega
                    have hz2 : a < a + ZZ := by omega
                    clear c4'
                    generalize a + ZZ = AZ at *
                    go_wp2_with fail
                    refine (LN'.out _).mono ?_; rintro e w6 ⟨rfl, hb6⟩
                    have Q6 := Lib.hid (QQ.out.keep hb6)
                    have P6 := Lib.hid (PP.out.keep hb6)
                    have b6 := hb.trans (hb6.mono hb.size)
                    have x11 := Q6.out.c11
                    have z11 := Joins.unfrozen_of_block Q6.out 11
                    have Q7 := Lib.hid (Q6.out.setM (M9 : Int))
                    have P7 := Lib.hid (P6.out.set1o (Nat.ne_of_lt hn) 11 (.int .i64 (M9 : Int)))
                    have b7 := b6.setCell (p := ⟨n, 11, none⟩) (Nat.le_of_lt hn) (.int .i64 (M9 : Int))
                    clear QQ PP hb hb6
                    go_wp2
                    go_roundw
                    case rel => exact ⟨M9, AZ, rfl, by omega, hz1, ht, HNx, Q7.out, P7.out, b7⟩
                    case measure => simp [intOf]; omega
                · have d6 : (((bt s a).toNat : Int) == 2) = false := by
                    have := u8_eq (bt s a) 2 (by omega) 2 rfl
                    rw [decide_eq_false k2] at this; exact this
                  have hnb : ¬ (T < a + 2 ∨ (bt s (a + 1)).toNat < 2 ∨ T < a + (bt s (a + 1)).toNat ∨ bt s a = 2 ∧ (bt s (a + 1)).toNat ≠ 4) := fun x => by
                    rcases x with x | x | x | x
                    · omega
                    · omega
                    · omega
                    · exact k2 x.1
                  have HNx : Hid (mo s T T (a + (bt s (a + 1)).toNat) m = R) := by
                    show _ = _
                    rw [← HE.out, mo_go c0 (by omega) k0 k1 hnb, if_neg k2]
                  clear k0 k1 k2 hnb HE Q P
                  generalize ((bt s a).toNat : Int) = KK at *
                  generalize (bt s (a + 1)).toNat = ZZ at *
                  have hz1 : a + ZZ ≤ T := by omega
                  have hz2 : a < a + ZZ := by omega
                  generalize a + ZZ = AZ at *
                  go_wp2
                  go_roundw
                  case rel => exact ⟨m, AZ, rfl, by omega, hz1, hm, HNx, QQ.out, PP.out, hb⟩
                  case measure => simp [intOf]; omega
              · have d0 : ¬ (a : Int) < (T : Int) := by omega
                have HRes : Hid (R = some m) := by show _ = _; rw [← HE.out]; exact mo_end _ _ _ _ _ (by omega)
                clear HE QQ PP
                obtain ⟨eG, eE, eZ⟩ := HT.out m HRes.out
                rw [eG] at Q
                have Q1 := Lib.hid Q
                have P1 := Lib.hid P
                have HEZ : Hid (E = K ∧ Z = if K = 0 then G else gz) := ⟨eE, eZ⟩
                clear Q P eG eE eZ HT HN HRes
                have HU := Lib.hid Try.underlying26
                go_wp2_with (refine wpList_load_mid rfl _ _ rfl _ _ rfl (gcl G) _ Q1.out.range HU.out rfl info26 ?_)
                refine (HK.out _).mono ?_; rintro e w5 ⟨rfl, hb5⟩
                have Q5 := Lib.hid (Q1.out.keep hb5)
                have P5 := Lib.hid (P1.out.keep hb5)
                have b5 := hb.trans (hb5.mono hb.size)
                clear Q1 P1 hb hb5
                by_cases hk : K = 0
                · subst hk
                  go_wp2_with (first | refine wpList_load_mid rfl _ _ rfl _ _ rfl (gcl G) _ Q5.out.range HU.out rfl info26 ?_ | refine wpList_store_mid rfl _ _ _ rfl _ _ (gc G) rfl rfl P5.out.there info26 (gc_one _) ?_)
                  exact bodyPost_ret (v := .tuple #[gv G, .int .i64 0]) (by simp [results, Try.results15, Act.put, asAddr, told w5 w.heap.size gz G P5.out]) rfl ⟨by rw [HEZ.out.2, HEZ.out.1]; first | rw [if_pos trivial] | rw [if_pos rfl], below_setCells b5 (Nat.le_refl _) _ _⟩
                · have hne : (K != 0) = true := by simpa using hk
                  go_wp2_with (refine wpList_store_mid rfl _ _ _ rfl _ _ (gc gz) rfl rfl P5.out.there info26 (gc_one gz) ?_)
                  exact bodyPost_ret (v := .tuple #[gv gz, .int .i64 K]) (by simp [results, Try.results15, Act.put, asAddr, told w5 w.heap.size gz gz P5.out]) rfl ⟨by rw [HEZ.out.2, HEZ.out.1, if_neg hk], below_setCells b5 (Nat.le_refl _) _ _⟩
    · have HR := Lib.hid (H5.out rfl)
      clear H4 HN HT
      go_wp2_with (refine wpList_store_mid rfl _ _ _ rfl _ _ (gc gz) rfl rfl P1.out.there info26 (gc_one gz) ?_)
      exact bodyPost_ret (v := .tuple #[gv gz, .int .i64 5]) (by simp [results, Try.results15, Act.put, asAddr, told wc w.heap.size gz gz P1.out]) rfl ⟨by rw [HR.out.1, HR.out.2], below_setCells b1 (Nat.le_refl _) _ _⟩

theorem rread_any (src dst : Nat) (s : ByteArray) (w : World) (h1 : src < 4294967296) (h2 : dst < 4294967296) (hs : s.size ≤ 140737488355328) :
    Calls Try.prog 15 #[.int .u32 (src : Int), .int .u32 (dst : Int), .string s] w fun e w' => e = .returned (.tuple #[gv (rres src dst s), .int .i64 (rerr src dst s)]) ∧ Below w.heap.size w w' := by
  by_cases c1 : s.size < 20
  · obtain ⟨e1, e2⟩ := ffail src dst s 3 (by decide) (by unfold flt; rw [if_pos c1])
    rw [e1, e2]; exact rread_short src dst s w c1
  by_cases c2 : bo s < 20
  · obtain ⟨e1, e2⟩ := ffail src dst s 4 (by decide) (by unfold flt; rw [if_neg c1, if_pos c2])
    rw [e1, e2]; exact rread_words src dst s w (by omega) (Or.inl c2)
  by_cases c3 : (bt s 12).toNat % 16 ≠ 0
  · obtain ⟨e1, e2⟩ := ffail src dst s 4 (by decide) (by unfold flt; rw [if_neg c1, if_neg c2, if_pos c3])
    rw [e1, e2]; exact rread_words src dst s w (by omega) (Or.inr c3)
  by_cases c4 : s.size < bo s
  · obtain ⟨e1, e2⟩ := ffail src dst s 3 (by decide) (by unfold flt; rw [if_neg c1, if_neg c2, if_neg c3, if_pos c4])
    rw [e1, e2]; exact rread_lack src dst s w (by omega) (by omega) (by omega) c4
  exact rread_main src dst s w h1 h2 hs (by omega) (by omega) (by omega) (by omega)
end Go.Proofs.Ytggoipdmiajckaa
