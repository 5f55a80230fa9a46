/-
  Contract of the document's UdpRead: what Read says.
-/
import Derived.Test.YtaijmccdlffjhaaRt
namespace Go.Proofs.Ytaijmccdlffjhaa
open Go.RowKit
set_option linter.unusedVariables false
set_option linter.unusedSimpArgs false

theorem two_list (s : ByteArray) (k : Nat) (h : k + 2 ≤ s.size) : (s.extract k (k + 2)).data.toList = [bt s k, bt s (k + 1)] := by
  have hl : (s.data.toList.take k).length = k := by rw [List.length_take]; simp; omega
  rw [extract_list, take_snoc s (k + 1) (by omega), take_snoc s k (by omega), bt_get s k (by omega), bt_get s (k + 1) (by omega)]
  simp [hl]
theorem numT (s : ByteArray) (k m : Nat) (hm : m = k + 2) (h : m ≤ s.size) (w : World) :
    Calls Try.prog 23 #[.string (s.extract k m)] w fun e w' => e = .returned (.int .u64 (tw s k : Int)) ∧ Below w.heap.size w w' := by
  subst hm
  have z : (s.extract k (k + 2)).size = 2 := by simp; omega
  refine (num_any 2 (s.extract k (k + 2)) w z (by omega)).mono ?_
  rintro e w1 ⟨rfl, kd, rfl⟩
  rw [two_list s k h, Pm.nv_two]
  exact ⟨rfl, below_drewN (Below.refl _ _) _⟩
theorem slT (s : ByteArray) (k m : Nat) (hk : k ≤ m) (h : m ≤ s.size) (q p : Int) (hq : q = k) (hp : p = m) (hs : s.size ≤ 281474976710656) (w' : World) : (Instr.slice 9 (.string s) (some (.int .i64 q)) (some (.int .i64 p)) none).run Try.prog w' = .ok (.string (s.extract k m)) w' := by
  subst hq hp
  have := run_slice_string (P := Try.prog) w' 9 s .i64 .i64 (k : Int) (m : Int) Try.underlying9 (by omega) (by omega) (by omega)
  simpa using this

/-- The bytes of what a text says are the text, just where the check sums are the same. -/
theorem bytes_iff (src dst : Nat) (s : ByteArray) (h8 : 8 ≤ s.size) (h4 : tw s 4 = s.size) : uf (rg src dst s) = s.extract 0 6 ∧ (uw (rg src dst s) = s ↔ tw s 6 = cs src dst (s.extract 0 6) (s.extract 8 s.size)) := by
  obtain ⟨e1, e2⟩ := split s h8
  have hf : uf (rg src dst s) = s.extract 0 6 := by
    rw [e2]
    unfold uf rg
    simp only [Int.toNat_natCast]
    rw [size_drop, show 8 + (s.size - 8) = tw s 4 from by omega]
  have hu : us (rg src dst s) = cs src dst (s.extract 0 6) (s.extract 8 s.size) := by unfold us; rw [hf]; rfl
  refine ⟨hf, ?_, ?_⟩
  · intro h
    have t6 : tw (uw (rg src dst s)) 6 = us (rg src dst s) := by unfold tw bt; rw [uw_list]; exact w16_wd _ (us_le _)
    rw [h] at t6
    rw [t6, hu]
  · intro h
    unfold uw
    rw [hu, ← h, hf, e2]
    exact e1.symm

theorem rread_short (src dst : Nat) (s : ByteArray) (w : World) (h : s.size < 8) :
    Calls Try.prog 12 #[.int .u32 (src : Int), .int .u32 (dst : Int), .string s] w fun e w' => e = .returned (.tuple #[gv gz, .int .i64 3]) ∧ Below w.heap.size w w' := by
  have hlt : (s.size : Int) < 8 := by omega
  have b0 : Below w.heap.size w (w.alloc (.cells gzc 26)) := (Below.refl _ _).alloc (Nat.le_refl _) _
  go_enter Try.func12, Try.ntmps12
  go_wp2
  exact bodyPost_ret (v := .tuple #[gv gz, .int .i64 3]) (by simp [results, Try.results12, go_sem, gz]) rfl ⟨rfl, b0⟩

set_option maxHeartbeats 2000000 in
theorem rread_3 (src dst : Nat) (s : ByteArray) (w : World) (h : 8 ≤ s.size) (hs : s.size ≤ 281474976710656) (h4 : s.size < tw s 4) :
    Calls Try.prog 12 #[.int .u32 (src : Int), .int .u32 (dst : Int), .string s] w fun e w' => e = .returned (.tuple #[gv gz, .int .i64 3]) ∧ Below w.heap.size w w' := by
  have hge : ¬ (s.size : Int) < 8 := by omega
  have N4 : Hid (∀ w', Calls Try.prog 23 #[.string (s.extract 4 6)] w' fun e w'' => e = .returned (.int .u64 (tw s 4 : Int)) ∧ Below w'.heap.size w' w'') := fun w' => numT s 4 6 rfl (by omega) w'
  have s4 : ∀ w', (Instr.slice 9 (.string s) (some (.int .i64 4)) (some (.int .i64 6)) none).run Try.prog w' = .ok (.string (s.extract 4 6)) w' := fun w' => slT s 4 6 (by omega) (by omega) 4 6 rfl rfl hs w'
  have b0 : Below w.heap.size w (w.alloc (.cells gzc 26)) := (Below.refl _ _).alloc (Nat.le_refl _) _
  have P0 : Hid (GB w.heap.size gz (w.alloc (.cells gzc 26))) := GB.new w gz
  have hk4 := tw_le s 4
  have hlt : (s.size : Int) < (tw s 4 : Int) := by omega
  have v4 : IntKind.i64.wrap (tw s 4 : Int) = (tw s 4 : Int) := wraps_i64 _ (by omega) (by omega)
  generalize tw s 4 = T at *
  generalize s.extract 4 6 = X at *
  go_enter Try.func12, Try.ntmps12
  go_wp2_with fail
  refine (N4.out _).mono ?_; rintro e w1 ⟨rfl, hb1⟩
  have P1 := Lib.hid (P0.out.keep hb1)
  have b1 := b0.trans (hb1.mono (by simp))
  go_wp2_with (refine wpList_store_mid rfl _ _ _ rfl _ _ (gc gz) rfl rfl P1.out.there info26 (gc_one gz) ?_)
  exact bodyPost_ret (v := .tuple #[gv gz, .int .i64 3]) (by simp [results, Try.results12, Act.put, asAddr, told w1 w.heap.size gz gz P1.out]) rfl ⟨rfl, below_setCells b1 (Nat.le_refl _) _ _⟩

set_option maxHeartbeats 2000000 in
theorem rread_4 (src dst : Nat) (s : ByteArray) (w : World) (h : 8 ≤ s.size) (hs : s.size ≤ 281474976710656) (h4 : ¬ s.size < tw s 4) (h6 : tw s 4 < s.size ∨ tw s 6 = 0) :
    Calls Try.prog 12 #[.int .u32 (src : Int), .int .u32 (dst : Int), .string s] w fun e w' => e = .returned (.tuple #[gv gz, .int .i64 4]) ∧ Below w.heap.size w w' := by
  have hge : ¬ (s.size : Int) < 8 := by omega
  have N4 : Hid (∀ w', Calls Try.prog 23 #[.string (s.extract 4 6)] w' fun e w'' => e = .returned (.int .u64 (tw s 4 : Int)) ∧ Below w'.heap.size w' w'') := fun w' => numT s 4 6 rfl (by omega) w'
  have N6 : Hid (∀ w', Calls Try.prog 23 #[.string (s.extract 6 8)] w' fun e w'' => e = .returned (.int .u64 (tw s 6 : Int)) ∧ Below w'.heap.size w' w'') := fun w' => numT s 6 8 rfl (by omega) w'
  have s4 : ∀ w', (Instr.slice 9 (.string s) (some (.int .i64 4)) (some (.int .i64 6)) none).run Try.prog w' = .ok (.string (s.extract 4 6)) w' := fun w' => slT s 4 6 (by omega) (by omega) 4 6 rfl rfl hs w'
  have s6 : ∀ w', (Instr.slice 9 (.string s) (some (.int .i64 6)) (some (.int .i64 8)) none).run Try.prog w' = .ok (.string (s.extract 6 8)) w' := fun w' => slT s 6 8 (by omega) (by omega) 6 8 rfl rfl hs w'
  have b0 : Below w.heap.size w (w.alloc (.cells gzc 26)) := (Below.refl _ _).alloc (Nat.le_refl _) _
  have P0 : Hid (GB w.heap.size gz (w.alloc (.cells gzc 26))) := GB.new w gz
  have hk4 := tw_le s 4
  have n4 : ¬ (s.size : Int) < (tw s 4 : Int) := by omega
  have v4 : IntKind.i64.wrap (tw s 4 : Int) = (tw s 4 : Int) := wraps_i64 _ (by omega) (by omega)
  generalize tw s 4 = T at *
  generalize tw s 6 = U at *
  generalize s.extract 4 6 = X at *
  generalize s.extract 6 8 = Y at *
  by_cases c : T < s.size
  · have d : (T : Int) < (s.size : Int) := by omega
    clear h6
    go_enter Try.func12, Try.ntmps12
    go_wp2_with fail
    refine (N4.out _).mono ?_; rintro e w1 ⟨rfl, hb1⟩
    have P1 := Lib.hid (P0.out.keep hb1)
    have b1 := b0.trans (hb1.mono (by simp))
    go_wp2_with fail
    refine (N4.out _).mono ?_; rintro e w2 ⟨rfl, hb2⟩
    have P2 := Lib.hid (P1.out.keep hb2)
    have b2 := b1.trans (hb2.mono b1.size)
    go_wp2_with (refine wpList_store_mid rfl _ _ _ rfl _ _ (gc gz) rfl rfl P2.out.there info26 (gc_one gz) ?_)
    exact bodyPost_ret (v := .tuple #[gv gz, .int .i64 4]) (by simp [results, Try.results12, Act.put, asAddr, told w2 w.heap.size gz gz P2.out]) rfl ⟨rfl, below_setCells b2 (Nat.le_refl _) _ _⟩
  · have d : ¬ (T : Int) < (s.size : Int) := by omega
    obtain rfl : U = 0 := h6.resolve_left c
    clear h6
    go_enter Try.func12, Try.ntmps12
    go_wp2_with fail
    refine (N4.out _).mono ?_; rintro e w1 ⟨rfl, hb1⟩
    have P1 := Lib.hid (P0.out.keep hb1)
    have b1 := b0.trans (hb1.mono (by simp))
    go_wp2_with fail
    refine (N4.out _).mono ?_; rintro e w2 ⟨rfl, hb2⟩
    have P2 := Lib.hid (P1.out.keep hb2)
    have b2 := b1.trans (hb2.mono b1.size)
    go_wp2_with fail
    refine (N6.out _).mono ?_; rintro e w3 ⟨rfl, hb3⟩
    have P3 := Lib.hid (P2.out.keep hb3)
    have b3 := b2.trans (hb3.mono b2.size)
    go_wp2_with (refine wpList_store_mid rfl _ _ _ rfl _ _ (gc gz) rfl rfl P3.out.there info26 (gc_one gz) ?_)
    exact bodyPost_ret (v := .tuple #[gv gz, .int .i64 4]) (by simp [results, Try.results12, Act.put, asAddr, told w3 w.heap.size gz gz P3.out]) rfl ⟨rfl, below_setCells b3 (Nat.le_refl _) _ _⟩

set_option maxHeartbeats 4000000 in
theorem rread_go (src dst : Nat) (s : ByteArray) (w : World) (h1 : src < 4294967296) (h2 : dst < 4294967296) (h : 8 ≤ s.size) (h4 : tw s 4 = s.size) (h6 : tw s 6 ≠ 0) :
    Calls Try.prog 12 #[.int .u32 (src : Int), .int .u32 (dst : Int), .string s] w fun e w' => e = .returned (.tuple #[gv (rres src dst s), .int .i64 (rerr src dst s)]) ∧ Below w.heap.size w w' := by
  have hk4 := tw_le s 4
  have hk6 := tw_le s 6
  have hs : s.size ≤ 281474976710656 := by omega
  have hge : ¬ (s.size : Int) < 8 := by omega
  have N0 : Hid (∀ w', Calls Try.prog 23 #[.string (s.extract 0 2)] w' fun e w'' => e = .returned (.int .u64 (tw s 0 : Int)) ∧ Below w'.heap.size w' w'') := fun w' => numT s 0 2 rfl (by omega) w'
  have N2 : Hid (∀ w', Calls Try.prog 23 #[.string (s.extract 2 4)] w' fun e w'' => e = .returned (.int .u64 (tw s 2 : Int)) ∧ Below w'.heap.size w' w'') := fun w' => numT s 2 4 rfl (by omega) w'
  have N4 : Hid (∀ w', Calls Try.prog 23 #[.string (s.extract 4 6)] w' fun e w'' => e = .returned (.int .u64 (s.size : Int)) ∧ Below w'.heap.size w' w'') := fun w' => by
    have := numT s 4 6 rfl (by omega) w'
    rwa [h4] at this
  have N6 : Hid (∀ w', Calls Try.prog 23 #[.string (s.extract 6 8)] w' fun e w'' => e = .returned (.int .u64 (tw s 6 : Int)) ∧ Below w'.heap.size w' w'') := fun w' => numT s 6 8 rfl (by omega) w'
  have s0 : ∀ w', (Instr.slice 9 (.string s) none (some (.int .i64 2)) none).run Try.prog w' = .ok (.string (s.extract 0 2)) w' := fun w' => by
    have := run_slice_string_h (P := Try.prog) w' 9 s Try.underlying9 .i64 2 (by omega) (by omega)
    simpa using this
  have s2 : ∀ w', (Instr.slice 9 (.string s) (some (.int .i64 2)) (some (.int .i64 4)) none).run Try.prog w' = .ok (.string (s.extract 2 4)) w' := fun w' => slT s 2 4 (by omega) (by omega) 2 4 rfl rfl hs w'
  have s4 : ∀ w', (Instr.slice 9 (.string s) (some (.int .i64 4)) (some (.int .i64 6)) none).run Try.prog w' = .ok (.string (s.extract 4 6)) w' := fun w' => slT s 4 6 (by omega) (by omega) 4 6 rfl rfl hs w'
  have s6 : ∀ w', (Instr.slice 9 (.string s) (some (.int .i64 6)) (some (.int .i64 8)) none).run Try.prog w' = .ok (.string (s.extract 6 8)) w' := fun w' => slT s 6 8 (by omega) (by omega) 6 8 rfl rfl hs w'
  have s8 : ∀ w', (Instr.slice 9 (.string s) (some (.int .i64 8)) none none).run Try.prog w' = .ok (.string (s.extract 8 s.size)) w' := fun w' => by
    have := run_slice_string_l (P := Try.prog) w' 9 s Try.underlying9 .i64 8 (by omega) (by omega)
    simpa using this
  have HB : Hid (∀ w', Calls Try.prog 17 #[gv (rg src dst s)] w' fun e w'' => e = .returned (.string (uw (rg src dst s))) ∧ Below w'.heap.size w' w'') := fun w' => by
    have k0 := tw_le s 0
    have k2 := tw_le s 2
    refine rbytes_any (rg src dst s) w' ?_ ?_ ?_ ?_ ?_ h1 h2
    · show (0 : Int) ≤ (tw s 0 : Int); omega
    · show (tw s 0 : Int) ≤ 65535; omega
    · show (0 : Int) ≤ (tw s 2 : Int); omega
    · show (tw s 2 : Int) ≤ 65535; omega
    · show 8 + (s.extract 8 s.size).size ≤ 65535; rw [size_drop]; omega
  have HC : Hid (∀ w', Calls Try.prog 10 #[gv (rg src dst s)] w' fun e w'' => e = .returned (.int .i64 (gchk (rg src dst s))) ∧ Below w'.heap.size w' w'') := fun w' => rchk_any _ w'
  have HI := Lib.hid (bytes_iff src dst s h h4).2
  have HF : Hid (flt src dst s = if tw s 6 = cs src dst (s.extract 0 6) (s.extract 8 s.size) then 0 else 5) := by
    show _ = _
    unfold flt
    rw [if_neg (by omega), if_neg (by omega), if_neg (by omega)]
  have HE : Hid (rerr src dst s = if flt src dst s = 0 then gchk (rg src dst s) else flt src dst s) := rfl
  have HV : Hid (rres src dst s = if rerr src dst s = 0 then rg src dst s else gz) := rfl
  have b0 : Below w.heap.size w (w.alloc (.cells gzc 26)) := (Below.refl _ _).alloc (Nat.le_refl _) _
  have P0 : Hid (GB w.heap.size gz (w.alloc (.cells gzc 26))) := GB.new w gz
  have v4 : IntKind.i64.wrap (s.size : Int) = (s.size : Int) := wraps_i64 _ (by omega) (by omega)
  have hk0 := tw_le s 0
  have hk2 := tw_le s 2
  have v0 : IntKind.i64.wrap (tw s 0 : Int) = (tw s 0 : Int) := wraps_i64 _ (by omega) (by omega)
  have v2 : IntKind.i64.wrap (tw s 2 : Int) = (tw s 2 : Int) := wraps_i64 _ (by omega) (by omega)
  have d6 : ((tw s 6 : Int) == 0) = false := by simp; omega
  have n4 : ¬ (s.size : Int) < (s.size : Int) := by omega
  have hs2 : s.size ≤ 65535 := by omega
  clear h4
  generalize rerr src dst s = E at *
  generalize rres src dst s = Z at *
  generalize flt src dst s = F at *
  generalize gchk (rg src dst s) = C at *
  generalize uw (rg src dst s) = B at *
  generalize cs src dst (s.extract 0 6) (s.extract 8 s.size) = S at *
  generalize tw s 6 = U at *
  go_enter Try.func12, Try.ntmps12
  go_wp2_with fail
  refine (N4.out _).mono ?_; rintro e w1 ⟨rfl, hb1⟩
  have P1 := Lib.hid (P0.out.keep hb1)
  have b1 := b0.trans (hb1.mono (by simp))
  go_wp2_with fail
  refine (N4.out _).mono ?_; rintro e w2 ⟨rfl, hb2⟩
  have P2 := Lib.hid (P1.out.keep hb2)
  have b2 := b1.trans (hb2.mono b1.size)
  go_wp2_with fail
  refine (N6.out _).mono ?_; rintro e w3 ⟨rfl, hb3⟩
  have P_a := Lib.hid (P2.out.keep hb3).drew
  have b_a : Below w.heap.size w w3.drew := (b2.trans (hb3.mono b2.size)).drew
  clear P0 b0 P1 b1 P2 b2 hb1 hb2 hb3
  go_wp2_with fail
  go_cut [8] from 37 to 51 (fun v wc => ∃ n, v = .pointer (some ⟨n, 0, none⟩) ∧ GB n (rg src dst s) wc ∧ GB w.heap.size gz wc ∧ n ≠ w.heap.size ∧ Below w.heap.size w wc)
  case first =>
    refine wp_region_any (by kernel_rfl) ?_
    change wpAny _ _ _ _ _ _ _ (World.drew _)
    refine takeA (i := 0) (d := some 37) (v := ?_) rfl rfl (by kernel_rfl) (by kernel_rfl) (by kernel_rfl) (fun _ _ _ h => h) (Or.inl ⟨by rfl, ?_⟩) ?_
    rotate_left
    · intro w'; go_simp; try with_reducible rfl
    simp only [Act.put, List.setIfInBounds_toArray, List.set_cons_zero, List.set_cons_succ]
    refine takeA (i := 1) (d := some 38) (v := ?_) rfl rfl (by kernel_rfl) (by kernel_rfl) (by kernel_rfl) (fun _ _ _ h => h) (Or.inl ⟨by rfl, ?_⟩) ?_
    rotate_left
    · intro w'; go_simp; try with_reducible rfl
    simp only [Act.put, List.setIfInBounds_toArray, List.set_cons_zero, List.set_cons_succ]
    refine takeA (i := 2) (d := some 39) (v := ?_) rfl rfl (by kernel_rfl) (by kernel_rfl) (by kernel_rfl) (fun _ _ _ h => h) (Or.inl ⟨by rfl, ?_⟩) ?_
    rotate_left
    · intro w'; go_simp; try with_reducible rfl
    simp only [Act.put, List.setIfInBounds_toArray, List.set_cons_zero, List.set_cons_succ]
    refine takeA (i := 6) (d := some 43) (v := ?_) rfl rfl (by kernel_rfl) (by kernel_rfl) (by kernel_rfl) (fun _ _ _ h => h) (Or.inl ⟨by rfl, ?_⟩) ?_
    rotate_left
    · intro w'; go_simp; try with_reducible rfl
    simp only [Act.put, List.setIfInBounds_toArray, List.set_cons_zero, List.set_cons_succ]
    refine takeA (i := 7) (d := some 44) (v := ?_) rfl rfl (by kernel_rfl) (by kernel_rfl) (by kernel_rfl) (fun _ _ _ h => h) (Or.inl ⟨by rfl, ?_⟩) ?_
    rotate_left
    · intro w'; go_simp; try with_reducible rfl
    simp only [Act.put, List.setIfInBounds_toArray, List.set_cons_zero, List.set_cons_succ]
    refine takeA (i := 8) (d := some 45) (v := ?_) rfl rfl (by kernel_rfl) (by kernel_rfl) (by kernel_rfl) (fun _ _ _ h => h) (Or.inl ⟨by rfl, ?_⟩) ?_
    rotate_left
    · intro w'; go_simp; try with_reducible rfl
    simp only [Act.put, List.setIfInBounds_toArray, List.set_cons_zero, List.set_cons_succ]
    refine takeA (i := 12) (d := some 49) (v := ?_) rfl rfl (by kernel_rfl) (by kernel_rfl) (by kernel_rfl) (fun _ _ _ h => h) (Or.inl ⟨by rfl, ?_⟩) ?_
    rotate_left
    · intro w'; go_simp; try with_reducible rfl
    simp only [Act.put, List.setIfInBounds_toArray, List.set_cons_zero, List.set_cons_succ]
    refine takeA (i := 13) (d := some 50) (v := ?_) rfl rfl (by kernel_rfl) (by kernel_rfl) (by kernel_rfl) (fun _ _ _ h => h) (Or.inl ⟨by rfl, ?_⟩) ?_
    rotate_left
    · intro w'; go_simp; try with_reducible rfl
    simp only [Act.put, List.setIfInBounds_toArray, List.set_cons_zero, List.set_cons_succ]
    refine wpAny_ready (rs := [3, 15]) (by kernel_rfl) (by simp) ?_
    refine AllReady.cons rfl (fun K hK => ?_) (AllReady.cons rfl (fun K hK => ?_) AllReady.nil)
    · go_simp
      refine (N0.out _).mono ?_
      rintro e y1 ⟨rfl, hb1⟩
      have P_1 := Lib.hid (P_a.out.keep hb1)
      have b_1 := b_a.trans (hb1.mono b_a.size)
      clear hb1
      refine hK _ _ ?_
      clear hK K
      try simp only [Act.put, List.setIfInBounds_toArray, List.set_cons_zero, List.set_cons_succ]
      refine takeA (i := 4) (d := some 41) (v := ?_) rfl rfl (by kernel_rfl) (by kernel_rfl) (by kernel_rfl) (fun _ _ _ h => h) (Or.inl ⟨by rfl, ?_⟩) ?_
      rotate_left
      · intro w'; go_simp; try with_reducible rfl
      simp only [Act.put, List.setIfInBounds_toArray, List.set_cons_zero, List.set_cons_succ]
      refine takeA (i := 5) (d := some 42) (v := ?_) rfl rfl (by kernel_rfl) (by kernel_rfl) (by kernel_rfl) (fun _ _ _ h => h) (Or.inl ⟨by rfl, ?_⟩) ?_
      rotate_left
      · intro w'; go_simp; try with_reducible rfl
      simp only [Act.put, List.setIfInBounds_toArray, List.set_cons_zero, List.set_cons_succ]
      refine wpAny_ready (rs := [9, 15]) (by kernel_rfl) (by simp) ?_
      refine AllReady.cons rfl (fun K hK => ?_) (AllReady.cons rfl (fun K hK => ?_) AllReady.nil)
      · go_simp
        refine (N2.out _).mono ?_
        rintro e y2 ⟨rfl, hb2⟩
        have P_2 := Lib.hid (P_1.out.keep hb2)
        have b_2 := b_1.trans (hb2.mono b_1.size)
        clear hb2
        refine hK _ _ ?_
        clear hK K
        try simp only [Act.put, List.setIfInBounds_toArray, List.set_cons_zero, List.set_cons_succ]
        refine takeA (i := 10) (d := some 47) (v := ?_) rfl rfl (by kernel_rfl) (by kernel_rfl) (by kernel_rfl) (fun _ _ _ h => h) (Or.inl ⟨by rfl, ?_⟩) ?_
        rotate_left
        · intro w'; go_simp; try with_reducible rfl
        simp only [Act.put, List.setIfInBounds_toArray, List.set_cons_zero, List.set_cons_succ]
        refine takeA (i := 11) (d := some 48) (v := ?_) rfl rfl (by kernel_rfl) (by kernel_rfl) (by kernel_rfl) (fun _ _ _ h => h) (Or.inl ⟨by rfl, ?_⟩) ?_
        rotate_left
        · intro w'; go_simp; try with_reducible rfl
        simp only [Act.put, List.setIfInBounds_toArray, List.set_cons_zero, List.set_cons_succ]
        refine takeA (i := 14) (d := some 51) (v := ?_) rfl rfl (by kernel_rfl) (by kernel_rfl) (by kernel_rfl) (fun _ _ _ h => h) (Or.inl ⟨by rfl, ?_⟩) ?_
        rotate_left
        · intro w'; go_simp; try with_reducible rfl
        simp only [Act.put, List.setIfInBounds_toArray, List.set_cons_zero, List.set_cons_succ]
        refine wpAny_ready (rs := [15]) (by kernel_rfl) (by simp) ?_
        refine AllReady.cons rfl (fun K hK => ?_) AllReady.nil
        go_simp
        refine hK _ _ ?_
        clear hK K
        try simp only [Act.put, List.setIfInBounds_toArray, List.set_cons_zero, List.set_cons_succ]
        have P_3 := Lib.hid (P_2.out.alloc (.cells gzc 26))
        have L_3 : Hid (∀ m : Nat, m < y2.heap.size → m < y2.heap.size) := fun _ h => h
        have G_3 : Hid (GB y2.heap.size gz (World.alloc (y2) (.cells gzc 26))) := GB.new _ gz
        have b_3 := b_2.alloc b_2.size (.cells gzc 26)
        have LP_3 := P_2.out.lt
        have TH : Hid (World.there (World.alloc (y2) (.cells gzc 26)) (y2.heap.size) 0 5) := G_3.out.there
        refine wpAny_ready (rs := [16]) (by kernel_rfl) (by simp) ?_
        refine AllReady.cons rfl (fun K hK => ?_) AllReady.nil
        rw [if_pos (by rfl)]
        refine wp_store_mid _ _ _ rfl _ _ (gc (rg src dst s)) rfl rfl TH.out info26 (gc_one _) ?_
        refine hK _ _ ?_
        clear hK K
        try simp only [Act.put, List.setIfInBounds_toArray, List.set_cons_zero, List.set_cons_succ]
        refine wpAny_done (by kernel_rfl) ?_ _
        try dsimp only
        try go_wp2_with fail
        go_meet
        exact ⟨_, rfl, G_3.out.put _, P_3.out.setOther (Nat.ne_of_lt LP_3) _, Nat.ne_of_gt LP_3, below_setCells b_3 (Nat.le_of_lt LP_3) _ _⟩
      · go_simp
        refine hK _ _ ?_
        clear hK K
        try simp only [Act.put, List.setIfInBounds_toArray, List.set_cons_zero, List.set_cons_succ]
        have P_4 := Lib.hid (P_1.out.alloc (.cells gzc 26))
        have L_4 : Hid (∀ m : Nat, m < y1.heap.size → m < y1.heap.size) := fun _ h => h
        have G_4 : Hid (GB y1.heap.size gz (World.alloc (y1) (.cells gzc 26))) := GB.new _ gz
        have b_4 := b_1.alloc b_1.size (.cells gzc 26)
        have LP_4 := P_1.out.lt
        refine wpAny_ready (rs := [9]) (by kernel_rfl) (by simp) ?_
        refine AllReady.cons rfl (fun K hK => ?_) AllReady.nil
        go_simp
        refine (N2.out _).mono ?_
        rintro e y5 ⟨rfl, hb5⟩
        have P_5 := Lib.hid (P_4.out.keep hb5)
        have G_5 := Lib.hid (G_4.out.keep hb5)
        have b_5 := b_4.trans (hb5.mono b_4.size)
        clear hb5
        refine hK _ _ ?_
        clear hK K
        try simp only [Act.put, List.setIfInBounds_toArray, List.set_cons_zero, List.set_cons_succ]
        refine takeA (i := 10) (d := some 47) (v := ?_) rfl rfl (by kernel_rfl) (by kernel_rfl) (by kernel_rfl) (fun _ _ _ h => h) (Or.inl ⟨by rfl, ?_⟩) ?_
        rotate_left
        · intro w'; go_simp; try with_reducible rfl
        simp only [Act.put, List.setIfInBounds_toArray, List.set_cons_zero, List.set_cons_succ]
        refine takeA (i := 11) (d := some 48) (v := ?_) rfl rfl (by kernel_rfl) (by kernel_rfl) (by kernel_rfl) (fun _ _ _ h => h) (Or.inl ⟨by rfl, ?_⟩) ?_
        rotate_left
        · intro w'; go_simp; try with_reducible rfl
        simp only [Act.put, List.setIfInBounds_toArray, List.set_cons_zero, List.set_cons_succ]
        refine takeA (i := 14) (d := some 51) (v := ?_) rfl rfl (by kernel_rfl) (by kernel_rfl) (by kernel_rfl) (fun _ _ _ h => h) (Or.inl ⟨by rfl, ?_⟩) ?_
        rotate_left
        · intro w'; go_simp; try with_reducible rfl
        simp only [Act.put, List.setIfInBounds_toArray, List.set_cons_zero, List.set_cons_succ]
        have TH : Hid (World.there (y5) (y1.heap.size) 0 5) := G_5.out.there
        refine wpAny_ready (rs := [16]) (by kernel_rfl) (by simp) ?_
        refine AllReady.cons rfl (fun K hK => ?_) AllReady.nil
        rw [if_pos (by rfl)]
        refine wp_store_mid _ _ _ rfl _ _ (gc (rg src dst s)) rfl rfl TH.out info26 (gc_one _) ?_
        refine hK _ _ ?_
        clear hK K
        try simp only [Act.put, List.setIfInBounds_toArray, List.set_cons_zero, List.set_cons_succ]
        refine wpAny_done (by kernel_rfl) ?_ _
        try dsimp only
        try go_wp2_with fail
        go_meet
        exact ⟨_, rfl, G_5.out.put _, P_5.out.setOther (Nat.ne_of_lt LP_4) _, Nat.ne_of_gt LP_4, below_setCells b_5 (Nat.le_of_lt LP_4) _ _⟩
    · go_simp
      refine hK _ _ ?_
      clear hK K
      try simp only [Act.put, List.setIfInBounds_toArray, List.set_cons_zero, List.set_cons_succ]
      have P_6 := Lib.hid (P_a.out.alloc (.cells gzc 26))
      have L_6 : Hid (∀ m : Nat, m < w3.heap.size → m < w3.heap.size) := fun _ h => h
      have G_6 : Hid (GB w3.heap.size gz (World.alloc (w3.drew) (.cells gzc 26))) := GB.new _ gz
      have b_6 := b_a.alloc b_a.size (.cells gzc 26)
      have LP_6 := P_a.out.lt
      refine wpAny_ready (rs := [3]) (by kernel_rfl) (by simp) ?_
      refine AllReady.cons rfl (fun K hK => ?_) AllReady.nil
      go_simp
      refine (N0.out _).mono ?_
      rintro e y7 ⟨rfl, hb7⟩
      have P_7 := Lib.hid (P_6.out.keep hb7)
      have G_7 := Lib.hid (G_6.out.keep hb7)
      have b_7 := b_6.trans (hb7.mono b_6.size)
      clear hb7
      refine hK _ _ ?_
      clear hK K
      try simp only [Act.put, List.setIfInBounds_toArray, List.set_cons_zero, List.set_cons_succ]
      refine takeA (i := 4) (d := some 41) (v := ?_) rfl rfl (by kernel_rfl) (by kernel_rfl) (by kernel_rfl) (fun _ _ _ h => h) (Or.inl ⟨by rfl, ?_⟩) ?_
      rotate_left
      · intro w'; go_simp; try with_reducible rfl
      simp only [Act.put, List.setIfInBounds_toArray, List.set_cons_zero, List.set_cons_succ]
      refine takeA (i := 5) (d := some 42) (v := ?_) rfl rfl (by kernel_rfl) (by kernel_rfl) (by kernel_rfl) (fun _ _ _ h => h) (Or.inl ⟨by rfl, ?_⟩) ?_
      rotate_left
      · intro w'; go_simp; try with_reducible rfl
      simp only [Act.put, List.setIfInBounds_toArray, List.set_cons_zero, List.set_cons_succ]
      refine wpAny_ready (rs := [9]) (by kernel_rfl) (by simp) ?_
      refine AllReady.cons rfl (fun K hK => ?_) AllReady.nil
      go_simp
      refine (N2.out _).mono ?_
      rintro e y8 ⟨rfl, hb8⟩
      have P_8 := Lib.hid (P_7.out.keep hb8)
      have G_8 := Lib.hid (G_7.out.keep hb8)
      have b_8 := b_7.trans (hb8.mono b_7.size)
      clear hb8
      refine hK _ _ ?_
      clear hK K
      try simp only [Act.put, List.setIfInBounds_toArray, List.set_cons_zero, List.set_cons_succ]
      refine takeA (i := 10) (d := some 47) (v := ?_) rfl rfl (by kernel_rfl) (by kernel_rfl) (by kernel_rfl) (fun _ _ _ h => h) (Or.inl ⟨by rfl, ?_⟩) ?_
      rotate_left
      · intro w'; go_simp; try with_reducible rfl
      simp only [Act.put, List.setIfInBounds_toArray, List.set_cons_zero, List.set_cons_succ]
      refine takeA (i := 11) (d := some 48) (v := ?_) rfl rfl (by kernel_rfl) (by kernel_rfl) (by kernel_rfl) (fun _ _ _ h => h) (Or.inl ⟨by rfl, ?_⟩) ?_
      rotate_left
      · intro w'; go_simp; try with_reducible rfl
      simp only [Act.put, List.setIfInBounds_toArray, List.set_cons_zero, List.set_cons_succ]
      refine takeA (i := 14) (d := some 51) (v := ?_) rfl rfl (by kernel_rfl) (by kernel_rfl) (by kernel_rfl) (fun _ _ _ h => h) (Or.inl ⟨by rfl, ?_⟩) ?_
      rotate_left
      · intro w'; go_simp; try with_reducible rfl
      simp only [Act.put, List.setIfInBounds_toArray, List.set_cons_zero, List.set_cons_succ]
      have TH : Hid (World.there (y8) (w3.heap.size) 0 5) := G_8.out.there
      refine wpAny_ready (rs := [16]) (by kernel_rfl) (by simp) ?_
      refine AllReady.cons rfl (fun K hK => ?_) AllReady.nil
      rw [if_pos (by rfl)]
      refine wp_store_mid _ _ _ rfl _ _ (gc (rg src dst s)) rfl rfl TH.out info26 (gc_one _) ?_
      refine hK _ _ ?_
      clear hK K
      try simp only [Act.put, List.setIfInBounds_toArray, List.set_cons_zero, List.set_cons_succ]
      refine wpAny_done (by kernel_rfl) ?_ _
      try dsimp only
      try go_wp2_with fail
      go_meet
      exact ⟨_, rfl, G_8.out.put _, P_8.out.setOther (Nat.ne_of_lt LP_6) _, Nat.ne_of_gt LP_6, below_setCells b_8 (Nat.le_of_lt LP_6) _ _⟩
  case rest =>
    obtain ⟨n, rfl, Q, P, hn, b⟩ := hcut
    have Q1 := Lib.hid Q
    have P1 := Lib.hid P
    clear Q P P_a b_a
    have HU := Lib.hid Try.underlying26
    go_wp2_with (refine wpList_load_mid rfl _ _ rfl _ _ rfl (gcl (rg src dst s)) _ Q1.out.range HU.out rfl info26 ?_)
    refine (HB.out _).mono ?_; rintro e w5 ⟨rfl, hb5⟩
    have Q5 := Lib.hid (Q1.out.keep hb5)
    have P5 := Lib.hid (P1.out.keep hb5)
    have b5 := b.trans (hb5.mono b.size)
    clear Q1 P1 b hb5
    by_cases hU : U = S
    · have hBs : B = s := HI.out.2 hU
      have hF : F = 0 := by rw [HF.out, if_pos hU]
      have hE : E = C := by rw [HE.out, if_pos hF]
      subst hBs
      have HZ : Hid (Z = if C = 0 then rg src dst B else gz) := by show _ = _; rw [HV.out, hE]
      have HEC : Hid (E = C) := hE
      clear hE hU hF HF HE HV HI
      go_wp2_with (refine wpList_load_mid rfl _ _ rfl _ _ rfl (gcl (rg src dst B)) _ Q5.out.range HU.out rfl info26 ?_)
      refine (HC.out _).mono ?_; rintro e w6 ⟨rfl, hb6⟩
      have Q6 := Lib.hid (Q5.out.keep hb6)
      have P6 := Lib.hid (P5.out.keep hb6)
      have b6 := b5.trans (hb6.mono b5.size)
      by_cases hk : C = 0
      · subst hk
        go_wp2_with (first | refine wpList_load_mid rfl _ _ rfl _ _ rfl (gcl (rg src dst B)) _ Q6.out.range HU.out rfl info26 ?_ | refine wpList_store_mid rfl _ _ _ rfl _ _ (gc (rg src dst B)) rfl rfl P6.out.there info26 (gc_one _) ?_)
        exact bodyPost_ret (v := .tuple #[gv (rg src dst B), .int .i64 0]) (by simp [results, Try.results12, Act.put, asAddr, told w6 w.heap.size gz (rg src dst B) P6.out]) rfl ⟨by rw [HZ.out, HEC.out]; first | rw [if_pos trivial] | rw [if_pos rfl], below_setCells b6 (Nat.le_refl _) _ _⟩
      · have hne : (C != 0) = true := by simpa using hk
        go_wp2_with (refine wpList_store_mid rfl _ _ _ rfl _ _ (gc gz) rfl rfl P6.out.there info26 (gc_one gz) ?_)
        exact bodyPost_ret (v := .tuple #[gv gz, .int .i64 C]) (by simp [results, Try.results12, Act.put, asAddr, told w6 w.heap.size gz gz P6.out]) rfl ⟨by rw [HZ.out, HEC.out, if_neg hk], below_setCells b6 (Nat.le_refl _) _ _⟩
    · have hBs : B ≠ s := fun e => hU (HI.out.1 e)
      have hF : F = 5 := by rw [HF.out, if_neg hU]
      have hE : E = 5 := by rw [HE.out, if_neg (by rw [hF]; decide), hF]
      have hZ : Z = gz := by rw [HV.out, if_neg (by rw [hE]; decide)]
      have hbs : (B.toList == s.toList) = false := by
        rw [beq_eq_false_iff_ne, ByteArray.toList_eq, ByteArray.toList_eq]
        exact fun e => hBs (ByteArray.ext (Array.toList_inj.1 e))
      clear HF HE HV HI hF
      subst hE hZ
      go_wp2_with (refine wpList_store_mid rfl _ _ _ rfl _ _ (gc gz) rfl rfl P5.out.there info26 (gc_one gz) ?_)
      exact bodyPost_ret (v := .tuple #[gv gz, .int .i64 5]) (by simp [results, Try.results12, Act.put, asAddr, told w5 w.heap.size gz gz P5.out]) rfl ⟨rfl, below_setCells b5 (Nat.le_refl _) _ _⟩

theorem rread_any (src dst : Nat) (s : ByteArray) (w : World) (h1 : src < 4294967296) (h2 : dst < 4294967296) (hs : s.size ≤ 281474976710656) :
    Calls Try.prog 12 #[.int .u32 (src : Int), .int .u32 (dst : Int), .string s] w fun e w' => e = .returned (.tuple #[gv (rres src dst s), .int .i64 (rerr src dst s)]) ∧ Below w.heap.size w w' := by
  have bad : ∀ c : Int, c ≠ 0 → flt src dst s = c → rerr src dst s = c ∧ rres src dst s = gz := fun c hc hf => by
    have e : rerr src dst s = c := by unfold rerr; rw [if_neg (by rw [hf]; exact hc), hf]
    exact ⟨e, by unfold rres; rw [if_neg (by rw [e]; exact hc)]⟩
  by_cases h8 : s.size < 8
  · have hf : flt src dst s = 3 := by unfold flt; rw [if_pos h8]
    obtain ⟨e1, e2⟩ := bad 3 (by decide) hf
    rw [e1, e2]; exact rread_short src dst s w h8
  by_cases h4 : s.size < tw s 4
  · have hf : flt src dst s = 3 := by unfold flt; rw [if_neg h8, if_pos h4]
    obtain ⟨e1, e2⟩ := bad 3 (by decide) hf
    rw [e1, e2]; exact rread_3 src dst s w (by omega) hs h4
  by_cases h6 : tw s 4 < s.size ∨ tw s 6 = 0
  · have hf : flt src dst s = 4 := by unfold flt; rw [if_neg h8, if_neg h4, if_pos h6]
    obtain ⟨e1, e2⟩ := bad 4 (by decide) hf
    rw [e1, e2]; exact rread_4 src dst s w (by omega) hs h4 h6
  · exact rread_go src dst s w h1 h2 (by omega) (by omega) (fun e => h6 (Or.inr e))
end Go.Proofs.Ytaijmccdlffjhaa
