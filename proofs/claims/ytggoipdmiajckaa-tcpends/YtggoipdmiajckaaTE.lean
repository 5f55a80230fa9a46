/-
  The walk of TcpEnds.
-/
import Derived.Test.YtggoipdmiajckaaTA
import Derived.Test.YtggoipdmiajckaaOpen
import Derived.Deep.CutRange
namespace Go.Proofs.Ytggoipdmiajckaa
open Go.RowKit
set_option linter.unusedVariables false
set_option linter.unusedSimpArgs false

theorem and_low32 (n : Nat) (h : n < 4294967296) : bits BinOp.and IntKind.u32 (n : Int) 65535 = ((n % 65536 : Nat) : Int) := by
  show IntKind.u32.wrap ((BitVec.ofInt 32 (n : Int) &&& BitVec.ofInt 32 65535).toNat : Int) = _
  rw [BitVec.toNat_and, BitVec.toNat_ofInt, BitVec.toNat_ofInt, show ((65535 : Int) % ((2 ^ 32 : Nat) : Int)).toNat = 2 ^ 16 - 1 from rfl, Nat.and_two_pow_sub_one_eq_mod, IntKind.wrap_u32]
  have h1 : ((n : Int) % ((2 ^ 32 : Nat) : Int)).toNat = n := by omega
  rw [h1]
  omega
theorem all_any (a b : Nat) (w : World) (ha : a < 4294967296) (hb : b < 4294967296) :
    Calls Try.prog 17 #[.int .u32 (a : Int), .int .u32 (b : Int)] w fun e w' => e = .returned (.int .u32 (al a b : Int)) ∧ w' = w := by
  have a1 := and_low32 a ha
  have a2 := and_low32 b hb
  have HL : Hid ((al a b : Int) = ((a : Int) / 65536 + ((a % 65536 : Nat) : Int) + (b : Int) / 65536 + ((b % 65536 : Nat) : Int)) % 65535) := by show _ = _; unfold al; omega
  have l1 : a % 65536 < 65536 := by omega
  have l2 : b % 65536 < 65536 := by omega
  have l3 : (a : Int) / 65536 < 65536 := by omega
  have l4 : (b : Int) / 65536 < 65536 := by omega
  have l5 : 0 ≤ (a : Int) / 65536 := by omega
  have l6 : 0 ≤ (b : Int) / 65536 := by omega
  generalize al a b = R at *
  generalize a % 65536 = A at *
  generalize b % 65536 = B at *
  generalize hX : (a : Int) / 65536 = X at *
  generalize hY : (b : Int) / 65536 = Y at *
  have v1 : IntKind.u32.wrap (X + (A : Int)) = X + (A : Int) := by rw [IntKind.wrap_u32]; omega
  have v2 : IntKind.u32.wrap (X + (A : Int) + Y) = X + (A : Int) + Y := by rw [IntKind.wrap_u32]; omega
  have v3 : IntKind.u32.wrap (X + (A : Int) + Y + (B : Int)) = X + (A : Int) + Y + (B : Int) := by rw [IntKind.wrap_u32]; omega
  have v4 : (X + (A : Int) + Y + (B : Int)).tmod 65535 = (X + (A : Int) + Y + (B : Int)) % 65535 := Int.tmod_eq_emod_of_nonneg (by omega)
  go_enter Try.func17, Try.ntmps17
  go_wp2
  go_ret
  exact ⟨ret_int HL.out.symm, rfl⟩

set_option maxHeartbeats 4000000 in
theorem ends_bad (g : Sg) (f : Fits g) (src dst : Nat) (h1 : src < 4294967296) (h2 : dst < 4294967296) (w : World) (h : gchk g ≠ 0) :
    Calls Try.prog 7 #[gv g, .int .u32 (src : Int), .int .u32 (dst : Int)] w fun e w' => e = .returned (.bool true) ∧ Below w.heap.size w w' := by
  have HA : Hid (∀ w', Calls Try.prog 8 #[gv g] w' fun e w'' => e = .returned (.tuple #[.string ⟨#[]⟩, .int .i64 (gchk g)]) ∧ Below w'.heap.size w' w'') := fun w' => write_bad g w' h
  have HB : Hid (∀ w', Calls Try.prog 14 #[.int .u32 0, .int .u32 0, .string ⟨#[]⟩] w' fun e w'' => e = .returned (.tuple #[.agg gzc, .int .i64 3]) ∧ Below w'.heap.size w' w'') := fun w' => read_none w'
  have b0 : Below w.heap.size w (w.alloc (.cells (gc g) 26)) := (Below.refl _ _).alloc (Nat.le_refl _) _
  generalize gchk g = C at *
  have hne : (C != 0) = true := by simpa using h
  go_enter Try.func7, Try.ntmps7
  go_wp2_with fail
  refine (HA.out _).mono ?_; rintro e w1 ⟨rfl, hb1⟩
  have b1 := b0.trans (hb1.mono (by simp))
  go_wp2_with fail
  refine (HB.out _).mono ?_; rintro e w2 ⟨rfl, hb2⟩
  have b2 := b1.trans (hb2.mono b1.size)
  go_wp2
  go_ret
  exact ⟨rfl, b2.alloc b2.size _⟩

set_option maxHeartbeats 4000000 in
theorem ends_other (g : Sg) (f : Fits g) (src dst : Nat) (h1 : src < 4294967296) (h2 : dst < 4294967296) (w : World) (h : gchk g = 0) (hal : al src dst ≠ al g.sa g.da) :
    Calls Try.prog 7 #[gv g, .int .u32 (src : Int), .int .u32 (dst : Int)] w fun e w' => e = .returned (.bool true) ∧ Below w.heap.size w w' := by
  have HA : Hid (∀ w', Calls Try.prog 8 #[gv g] w' fun e w'' => e = .returned (.tuple #[.string (uw g), .int .i64 0]) ∧ Below w'.heap.size w' w'') := fun w' => write_ok g w' h f.sa f.da f.sq f.ak
  have HB : Hid (∀ w', Calls Try.prog 14 #[.int .u32 0, .int .u32 0, .string ⟨#[]⟩] w' fun e w'' => e = .returned (.tuple #[.agg gzc, .int .i64 3]) ∧ Below w'.heap.size w' w'') := fun w' => read_none w'
  have zu : (uw g).size ≤ 2000 := by
    have := gchk_ok h
    have := wb_cases g
    rw [uw_sz]; omega
  obtain ⟨r1, r2⟩ := ends_sum g src dst h f.sa f.da f.sq f.ak h1 h2 hal
  have HR : Hid (∀ w', Calls Try.prog 14 #[.int .u32 (src : Int), .int .u32 (dst : Int), .string (uw g)] w' fun e w'' => e = .returned (.tuple #[.agg gzc, .int .i64 5]) ∧ Below w'.heap.size w' w'') := fun w' => by
    have := read_any src dst (uw g) w' h1 h2 (by omega)
    rw [r1, r2] at this
    exact this
  clear r1 r2
  have U1 : Hid (∀ w', Calls Try.prog 17 #[.int .u32 (src : Int), .int .u32 (dst : Int)] w' fun e w'' => e = .returned (.int .u32 (al src dst : Int)) ∧ w'' = w') := fun w' => all_any _ _ w' h1 h2
  have U2 : Hid (∀ w', Calls Try.prog 17 #[.int .u32 (g.sa : Int), .int .u32 (g.da : Int)] w' fun e w'' => e = .returned (.int .u32 (al g.sa g.da : Int)) ∧ w'' = w') := fun w' => all_any _ _ w' f.sa f.da
  have d1 : ((al src dst : Int) != (al g.sa g.da : Int)) = true := by simp; omega
  have b0 : Below w.heap.size w (w.alloc (.cells (gc g) 26)) := (Below.refl _ _).alloc (Nat.le_refl _) _
  have P0 := Lib.hid (GB.new w g)
  clear h zu hal f
  generalize uw g = U at *
  generalize al src dst = A1 at *
  generalize al g.sa g.da = A2 at *
  go_enter Try.func7, Try.ntmps7
  go_wp2_with fail
  refine (HA.out _).mono ?_; rintro e w1 ⟨rfl, hb1⟩
  have P1 := Lib.hid (P0.out.keep hb1)
  have b1 := b0.trans (hb1.mono (by simp))
  go_wp2_with fail
  refine (HB.out _).mono ?_; rintro e w2 ⟨rfl, hb2⟩
  have P2 := Lib.hid ((P1.out.keep hb2).alloc (.cells gzc 26))
  have b2 := (b1.trans (hb2.mono b1.size)).alloc (b1.trans (hb2.mono b1.size)).size (.cells gzc 26)
  clear P0 P1 b0 b1 hb1 hb2
  go_wp2_with fail
  refine (HR.out _).mono ?_; rintro e w3 ⟨rfl, hb3⟩
  have P3 := P2.out.keep hb3
  have b3 := b2.trans (hb3.mono b2.size)
  have hlt := P3.lt
  have P4 := Lib.hid (P3.alloc (.cells gzc 26))
  have N4 : Hid (GB w3.heap.size gz (w3.alloc (.cells gzc 26))) := GB.new w3 _
  have b4 := b3.alloc b3.size (.cells gzc 26)
  clear P2 P3 b2 b3 hb3
  go_wp2_with fail
  refine wp_region_held_drew (S := fun w' => Hid (GB w.heap.size g w')) (by kernel_rfl) (Lib.hid P4.out.drew) (fun hHeld => ?_)
  refine takeH (i := 0) (d := some 36) (v := ?_) rfl rfl (by kernel_rfl) (by kernel_rfl) (by kernel_rfl) (fun _ _ _ h => h) (Or.inl ⟨by rfl, ?_⟩) hHeld ?_
  rotate_left
  · intro w' hSw; (try dsimp only at hSw); go_simp; try with_reducible rfl
  simp only [Act.put, List.setIfInBounds_toArray, List.set_cons_zero, List.set_cons_succ]
  refine takeH (i := 1) (d := some 37) (v := ?_) rfl rfl (by kernel_rfl) (by kernel_rfl) (by kernel_rfl) (fun _ _ _ h => h) (Or.inl ⟨by rfl, ?_⟩) hHeld ?_
  rotate_left
  · intro w' hSw; (try dsimp only at hSw); go_simp; try with_reducible rfl
  simp only [Act.put, List.setIfInBounds_toArray, List.set_cons_zero, List.set_cons_succ]
  refine takeH (i := 2) (d := some 38) (v := ?_) rfl rfl (by kernel_rfl) (by kernel_rfl) (by kernel_rfl) (fun _ _ _ h => h) (Or.inl ⟨by rfl, ?_⟩) hHeld ?_
  rotate_left
  · intro w' hSw; (try dsimp only at hSw); go_simp; try with_reducible rfl
  simp only [Act.put, List.setIfInBounds_toArray, List.set_cons_zero, List.set_cons_succ]
  refine takeH (i := 4) (d := some 40) (v := ?_) rfl rfl (by kernel_rfl) (by kernel_rfl) (by kernel_rfl) (fun _ _ _ h => h) (Or.inl ⟨by rfl, ?_⟩) hHeld ?_
  rotate_left
  · intro w' hSw; (try dsimp only at hSw); go_simp; try with_reducible rfl
  simp only [Act.put, List.setIfInBounds_toArray, List.set_cons_zero, List.set_cons_succ]
  refine takeH (i := 5) (d := some 41) (v := ?_) rfl rfl (by kernel_rfl) (by kernel_rfl) (by kernel_rfl) (fun _ _ _ h => h) (Or.inl ⟨by rfl, ?_⟩) hHeld ?_
  rotate_left
  · intro w' hSw; (try dsimp only at hSw); go_simp; try with_reducible rfl
  simp only [Act.put, List.setIfInBounds_toArray, List.set_cons_zero, List.set_cons_succ]
  refine takeH (i := 6) (d := some 42) (v := ?_) rfl rfl (by kernel_rfl) (by kernel_rfl) (by kernel_rfl) (fun _ _ _ h => h) (Or.inl ⟨by rfl, ?_⟩) hHeld ?_
  rotate_left
  · intro w' hSw; (try dsimp only at hSw); go_simp; try with_reducible rfl
  simp only [Act.put, List.setIfInBounds_toArray, List.set_cons_zero, List.set_cons_succ]
  refine takeH (i := 8) (d := some 44) (v := ?_) rfl rfl (by kernel_rfl) (by kernel_rfl) (by kernel_rfl) (fun _ _ _ h => h) (Or.inl ⟨by rfl, ?_⟩) hHeld ?_
  rotate_left
  · intro w' hSw; (try dsimp only at hSw); go_simp; try with_reducible rfl
  simp only [Act.put, List.setIfInBounds_toArray, List.set_cons_zero, List.set_cons_succ]
  refine takeH (i := 9) (d := some 45) (v := ?_) rfl rfl (by kernel_rfl) (by kernel_rfl) (by kernel_rfl) (fun _ _ _ h => h) (Or.inl ⟨by rfl, ?_⟩) hHeld ?_
  rotate_left
  · intro w' hSw; (try dsimp only at hSw); go_simp; try with_reducible rfl
  simp only [Act.put, List.setIfInBounds_toArray, List.set_cons_zero, List.set_cons_succ]
  refine takeH (i := 7) (d := some 43) (v := ?_) rfl rfl (by kernel_rfl) (by kernel_rfl) (by kernel_rfl) (fun _ _ _ h => h) (Or.inl ⟨by rfl, ?_⟩) hHeld ?_
  rotate_left
  · intro w' hSw; (try dsimp only at hSw); have hc := hSw.out.c0; clear hSw; go_simp; try with_reducible rfl
  simp only [Act.put, List.setIfInBounds_toArray, List.set_cons_zero, List.set_cons_succ]
  refine takeH (i := 10) (d := some 46) (v := ?_) rfl rfl (by kernel_rfl) (by kernel_rfl) (by kernel_rfl) (fun _ _ _ h => h) (Or.inl ⟨by rfl, ?_⟩) hHeld ?_
  rotate_left
  · intro w' hSw; (try dsimp only at hSw); have hc := hSw.out.c2; clear hSw; go_simp; try with_reducible rfl
  simp only [Act.put, List.setIfInBounds_toArray, List.set_cons_zero, List.set_cons_succ]
  refine wpAnyH_ready (rs := [3]) (by kernel_rfl) (by simp) ?_
  refine AllReadyH.cons rfl (fun K hK => ?_) AllReadyH.nil
  go_simp
  refine (U1.out _).mono ?_
  rintro e _ ⟨rfl, rfl⟩
  have Q_0 := hHeld
  clear hHeld
  refine hK.out _ _ Q_0 (fun hHeld => ?_)
  clear hK K
  try simp only [Act.put, List.setIfInBounds_toArray, List.set_cons_zero, List.set_cons_succ]
  refine wpAnyH_ready (rs := [11]) (by kernel_rfl) (by simp) ?_
  refine AllReadyH.cons rfl (fun K hK => ?_) AllReadyH.nil
  go_simp
  refine (U2.out _).mono ?_
  rintro e _ ⟨rfl, rfl⟩
  have Q_1 := hHeld
  clear hHeld
  refine hK.out _ _ Q_1 (fun hHeld => ?_)
  clear hK K
  try simp only [Act.put, List.setIfInBounds_toArray, List.set_cons_zero, List.set_cons_succ]
  refine takeH (i := 12) (d := some 48) (v := ?_) rfl rfl (by kernel_rfl) (by kernel_rfl) (by kernel_rfl) (fun _ _ _ h => h) (Or.inl ⟨by rfl, ?_⟩) hHeld ?_
  rotate_left
  · intro w' hSw; (try dsimp only at hSw); go_simp; try with_reducible rfl
  simp only [Act.put, List.setIfInBounds_toArray, List.set_cons_zero, List.set_cons_succ]
  refine wpAnyH_done (by kernel_rfl) ?_ _
  have x0 : World.cell? (w3.alloc (.cells gzc 26)).drew ⟨w3.heap.size, 0, none⟩ = some (.int .u32 0) := N4.out.c0
  have x1 : World.cell? (w3.alloc (.cells gzc 26)).drew ⟨w3.heap.size, 1, none⟩ = some (.int .i64 0) := N4.out.c1
  have x2 : World.cell? (w3.alloc (.cells gzc 26)).drew ⟨w3.heap.size, 2, none⟩ = some (.int .u32 0) := N4.out.c2
  have x3 : World.cell? (w3.alloc (.cells gzc 26)).drew ⟨w3.heap.size, 3, none⟩ = some (.int .i64 0) := N4.out.c3
  have x4 : World.cell? (w3.alloc (.cells gzc 26)).drew ⟨w3.heap.size, 4, none⟩ = some (.int .u32 0) := N4.out.c4
  have x5 : World.cell? (w3.alloc (.cells gzc 26)).drew ⟨w3.heap.size, 5, none⟩ = some (.int .u32 0) := N4.out.c5
  have x6 : World.cell? (w3.alloc (.cells gzc 26)).drew ⟨w3.heap.size, 6, none⟩ = some (.bool false) := N4.out.c6
  have x7 : World.cell? (w3.alloc (.cells gzc 26)).drew ⟨w3.heap.size, 7, none⟩ = some (.bool false) := N4.out.c7
  have x8 : World.cell? (w3.alloc (.cells gzc 26)).drew ⟨w3.heap.size, 8, none⟩ = some (.bool false) := N4.out.c8
  have x9 : World.cell? (w3.alloc (.cells gzc 26)).drew ⟨w3.heap.size, 9, none⟩ = some (.bool false) := N4.out.c9
  have x10 : World.cell? (w3.alloc (.cells gzc 26)).drew ⟨w3.heap.size, 10, none⟩ = some (.int .i64 0) := N4.out.c10
  have x11 : World.cell? (w3.alloc (.cells gzc 26)).drew ⟨w3.heap.size, 11, none⟩ = some (.int .i64 0) := N4.out.c11
  have x12 : World.cell? (w3.alloc (.cells gzc 26)).drew ⟨w3.heap.size, 12, none⟩ = some (.string ⟨#[]⟩) := N4.out.c12
  go_wp2
  go_ret
  exact ⟨rfl, b4.drew⟩

set_option maxHeartbeats 4000000 in
theorem ends_same (g : Sg) (f : Fits g) (src dst : Nat) (h1 : src < 4294967296) (h2 : dst < 4294967296) (w : World) (h : gchk g = 0) (hal : al src dst = al g.sa g.da) :
    Calls Try.prog 7 #[gv g, .int .u32 (src : Int), .int .u32 (dst : Int)] w fun e w' => e = .returned (.bool true) ∧ Below w.heap.size w w' := by
  have HA : Hid (∀ w', Calls Try.prog 8 #[gv g] w' fun e w'' => e = .returned (.tuple #[.string (uw g), .int .i64 0]) ∧ Below w'.heap.size w' w'') := fun w' => write_ok g w' h f.sa f.da f.sq f.ak
  have HB : Hid (∀ w', Calls Try.prog 14 #[.int .u32 0, .int .u32 0, .string ⟨#[]⟩] w' fun e w'' => e = .returned (.tuple #[.agg gzc, .int .i64 3]) ∧ Below w'.heap.size w' w'') := fun w' => read_none w'
  have zu : (uw g).size ≤ 2000 := by
    have := gchk_ok h
    have := wb_cases g
    rw [uw_sz]; omega
  have HR : Hid (∀ w', Calls Try.prog 14 #[.int .u32 (src : Int), .int .u32 (dst : Int), .string (uw g)] w' fun e w'' => e = .returned (.tuple #[gv (rres src dst (uw g)), .int .i64 (rerr src dst (uw g))]) ∧ Below w'.heap.size w' w'') := fun w' => read_any src dst (uw g) w' h1 h2 (by omega)
  have HG : Hid (rerr src dst (uw g) = 0 → (rres src dst (uw g)).body = g.body ∧ (rres src dst (uw g)).sa = src ∧ (rres src dst (uw g)).da = dst) := fun hr => by
    rw [ends_read g src dst h f.sq f.ak hr]; exact ⟨rfl, rfl, rfl⟩
  generalize rres src dst (uw g) = G at *
  generalize rerr src dst (uw g) = E at *
  have U1 : Hid (∀ w', Calls Try.prog 17 #[.int .u32 (src : Int), .int .u32 (dst : Int)] w' fun e w'' => e = .returned (.int .u32 (al src dst : Int)) ∧ w'' = w') := fun w' => all_any _ _ w' h1 h2
  have U2 : Hid (∀ w', Calls Try.prog 17 #[.int .u32 (g.sa : Int), .int .u32 (g.da : Int)] w' fun e w'' => e = .returned (.int .u32 (al g.sa g.da : Int)) ∧ w'' = w') := fun w' => all_any _ _ w' f.sa f.da
  have d1 : ((al src dst : Int) != (al g.sa g.da : Int)) = false := by simp; omega
  have b0 : Below w.heap.size w (w.alloc (.cells (gc g) 26)) := (Below.refl _ _).alloc (Nat.le_refl _) _
  have P0 := Lib.hid (GB.new w g)
  clear h zu hal f
  generalize uw g = U at *
  generalize al src dst = A1 at *
  generalize al g.sa g.da = A2 at *
  go_enter Try.func7, Try.ntmps7
  go_wp2_with fail
  refine (HA.out _).mono ?_; rintro e w1 ⟨rfl, hb1⟩
  have P1 := Lib.hid (P0.out.keep hb1)
  have b1 := b0.trans (hb1.mono (by simp))
  go_wp2_with fail
  refine (HB.out _).mono ?_; rintro e w2 ⟨rfl, hb2⟩
  have P2 := Lib.hid ((P1.out.keep hb2).alloc (.cells gzc 26))
  have b2 := (b1.trans (hb2.mono b1.size)).alloc (b1.trans (hb2.mono b1.size)).size (.cells gzc 26)
  clear P0 P1 b0 b1 hb1 hb2
  go_wp2_with fail
  refine (HR.out _).mono ?_; rintro e w3 ⟨rfl, hb3⟩
  have P3 := P2.out.keep hb3
  have b3 := b2.trans (hb3.mono b2.size)
  have hlt := P3.lt
  have P4 := Lib.hid (P3.alloc (.cells (gc G) 26))
  have N4 : Hid (GB w3.heap.size G (w3.alloc (.cells (gc G) 26))) := GB.new w3 _
  have b4 := b3.alloc b3.size (.cells (gc G) 26)
  clear P2 P3 b2 b3 hb3
  go_wp2_with fail
  refine wp_region_held_drew (S := fun w' => Hid (GB w.heap.size g w')) (by kernel_rfl) (Lib.hid P4.out.drew) (fun hHeld => ?_)
  refine takeH (i := 0) (d := some 36) (v := ?_) rfl rfl (by kernel_rfl) (by kernel_rfl) (by kernel_rfl) (fun _ _ _ h => h) (Or.inl ⟨by rfl, ?_⟩) hHeld ?_
  rotate_left
  · intro w' hSw; (try dsimp only at hSw); go_simp; try with_reducible rfl
  simp only [Act.put, List.setIfInBounds_toArray, List.set_cons_zero, List.set_cons_succ]
  refine takeH (i := 1) (d := some 37) (v := ?_) rfl rfl (by kernel_rfl) (by kernel_rfl) (by kernel_rfl) (fun _ _ _ h => h) (Or.inl ⟨by rfl, ?_⟩) hHeld ?_
  rotate_left
  · intro w' hSw; (try dsimp only at hSw); go_simp; try with_reducible rfl
  simp only [Act.put, List.setIfInBounds_toArray, List.set_cons_zero, List.set_cons_succ]
  refine takeH (i := 2) (d := some 38) (v := ?_) rfl rfl (by kernel_rfl) (by kernel_rfl) (by kernel_rfl) (fun _ _ _ h => h) (Or.inl ⟨by rfl, ?_⟩) hHeld ?_
  rotate_left
  · intro w' hSw; (try dsimp only at hSw); go_simp; try with_reducible rfl
  simp only [Act.put, List.setIfInBounds_toArray, List.set_cons_zero, List.set_cons_succ]
  refine takeH (i := 4) (d := some 40) (v := ?_) rfl rfl (by kernel_rfl) (by kernel_rfl) (by kernel_rfl) (fun _ _ _ h => h) (Or.inl ⟨by rfl, ?_⟩) hHeld ?_
  rotate_left
  · intro w' hSw; (try dsimp only at hSw); go_simp; try with_reducible rfl
  simp only [Act.put, List.setIfInBounds_toArray, List.set_cons_zero, List.set_cons_succ]
  refine takeH (i := 5) (d := some 41) (v := ?_) rfl rfl (by kernel_rfl) (by kernel_rfl) (by kernel_rfl) (fun _ _ _ h => h) (Or.inl ⟨by rfl, ?_⟩) hHeld ?_
  rotate_left
  · intro w' hSw; (try dsimp only at hSw); go_simp; try with_reducible rfl
  simp only [Act.put, List.setIfInBounds_toArray, List.set_cons_zero, List.set_cons_succ]
  refine takeH (i := 6) (d := some 42) (v := ?_) rfl rfl (by kernel_rfl) (by kernel_rfl) (by kernel_rfl) (fun _ _ _ h => h) (Or.inl ⟨by rfl, ?_⟩) hHeld ?_
  rotate_left
  · intro w' hSw; (try dsimp only at hSw); go_simp; try with_reducible rfl
  simp only [Act.put, List.setIfInBounds_toArray, List.set_cons_zero, List.set_cons_succ]
  refine takeH (i := 8) (d := some 44) (v := ?_) rfl rfl (by kernel_rfl) (by kernel_rfl) (by kernel_rfl) (fun _ _ _ h => h) (Or.inl ⟨by rfl, ?_⟩) hHeld ?_
  rotate_left
  · intro w' hSw; (try dsimp only at hSw); go_simp; try with_reducible rfl
  simp only [Act.put, List.setIfInBounds_toArray, List.set_cons_zero, List.set_cons_succ]
  refine takeH (i := 9) (d := some 45) (v := ?_) rfl rfl (by kernel_rfl) (by kernel_rfl) (by kernel_rfl) (fun _ _ _ h => h) (Or.inl ⟨by rfl, ?_⟩) hHeld ?_
  rotate_left
  · intro w' hSw; (try dsimp only at hSw); go_simp; try with_reducible rfl
  simp only [Act.put, List.setIfInBounds_toArray, List.set_cons_zero, List.set_cons_succ]
  refine takeH (i := 7) (d := some 43) (v := ?_) rfl rfl (by kernel_rfl) (by kernel_rfl) (by kernel_rfl) (fun _ _ _ h => h) (Or.inl ⟨by rfl, ?_⟩) hHeld ?_
  rotate_left
  · intro w' hSw; (try dsimp only at hSw); have hc := hSw.out.c0; clear hSw; go_simp; try with_reducible rfl
  simp only [Act.put, List.setIfInBounds_toArray, List.set_cons_zero, List.set_cons_succ]
  refine takeH (i := 10) (d := some 46) (v := ?_) rfl rfl (by kernel_rfl) (by kernel_rfl) (by kernel_rfl) (fun _ _ _ h => h) (Or.inl ⟨by rfl, ?_⟩) hHeld ?_
  rotate_left
  · intro w' hSw; (try dsimp only at hSw); have hc := hSw.out.c2; clear hSw; go_simp; try with_reducible rfl
  simp only [Act.put, List.setIfInBounds_toArray, List.set_cons_zero, List.set_cons_succ]
  refine wpAnyH_ready (rs := [3]) (by kernel_rfl) (by simp) ?_
  refine AllReadyH.cons rfl (fun K hK => ?_) AllReadyH.nil
  go_simp
  refine (U1.out _).mono ?_
  rintro e _ ⟨rfl, rfl⟩
  have Q_0 := hHeld
  clear hHeld
  refine hK.out _ _ Q_0 (fun hHeld => ?_)
  clear hK K
  try simp only [Act.put, List.setIfInBounds_toArray, List.set_cons_zero, List.set_cons_succ]
  refine wpAnyH_ready (rs := [11]) (by kernel_rfl) (by simp) ?_
  refine AllReadyH.cons rfl (fun K hK => ?_) AllReadyH.nil
  go_simp
  refine (U2.out _).mono ?_
  rintro e _ ⟨rfl, rfl⟩
  have Q_1 := hHeld
  clear hHeld
  refine hK.out _ _ Q_1 (fun hHeld => ?_)
  clear hK K
  try simp only [Act.put, List.setIfInBounds_toArray, List.set_cons_zero, List.set_cons_succ]
  refine takeH (i := 12) (d := some 48) (v := ?_) rfl rfl (by kernel_rfl) (by kernel_rfl) (by kernel_rfl) (fun _ _ _ h => h) (Or.inl ⟨by rfl, ?_⟩) hHeld ?_
  rotate_left
  · intro w' hSw; (try dsimp only at hSw); go_simp; try with_reducible rfl
  simp only [Act.put, List.setIfInBounds_toArray, List.set_cons_zero, List.set_cons_succ]
  refine wpAnyH_done (by kernel_rfl) ?_ _
  by_cases hE : E = 0
  · subst hE
    obtain ⟨q1, q2, q3⟩ := HG.out rfl
    have x0 : World.cell? (w3.alloc (.cells (gc G) 26)).drew ⟨w3.heap.size, 0, none⟩ = some (.int .u32 (src : Int)) := by rw [← q2]; exact N4.out.c0
    have x2 : World.cell? (w3.alloc (.cells (gc G) 26)).drew ⟨w3.heap.size, 2, none⟩ = some (.int .u32 (dst : Int)) := by rw [← q3]; exact N4.out.c2
    have x12 : World.cell? (w3.alloc (.cells (gc G) 26)).drew ⟨w3.heap.size, 12, none⟩ = some (.string g.body) := by rw [← q1]; exact N4.out.c12
    have y12 := hHeld.out.c12
    clear HG N4 q1 q2 q3
    go_wp2
    go_ret
    exact ⟨rfl, b4.drew⟩
  · have hne : (E != 0) = true := by simpa using hE
    go_wp2
    go_ret
    exact ⟨rfl, b4.drew⟩

theorem ends_walk (g : Sg) (src dst : Nat) (f : Fits g) (h1 : src < 4294967296) (h2 : dst < 4294967296) (w : World) :
    Calls Try.prog 7 #[gv g, .int .u32 (src : Int), .int .u32 (dst : Int)] w fun e w' => e = .returned (.bool true) ∧ Below w.heap.size w w' := by
  by_cases h : gchk g = 0
  · by_cases hal : al src dst = al g.sa g.da
    · exact ends_same g f src dst h1 h2 w h hal
    · exact ends_other g f src dst h1 h2 w h hal
  · exact ends_bad g f src dst h1 h2 w h
end Go.Proofs.Ytggoipdmiajckaa
