/-
  Contract of a head's packet.
-/
import Derived.Test.YtlkodoiiigndoaaFlt
import Derived.Test.YtlkodoiiigndoaaWr
namespace Go.Proofs.Ytlkodoiiigndoaa
open Go.RowKit
set_option linter.unusedVariables false
set_option linter.unusedSimpArgs false

/-- What a head says of a packet: all but its body. -/
def pk0 (B : Nat → UInt8) : Pk := ⟨w32 B 12, w32 B 16, ((B 9).toNat : Int), ((B 8).toNat : Int), (w16 (B 4) (B 5) : Int), decide (w16 (B 6) (B 7) / 16384 % 2 = 1), decide (w16 (B 6) (B 7) / 8192 % 2 = 1), ((w16 (B 6) (B 7) % 8192 : Nat) : Int), ⟨#[]⟩⟩

theorem pc_one (p : Pk) : (pc p).all (·.oneCell') = true := by
  refine all_oneCell_toArray (cs := pcl p) ?_
  intro v hv
  simp only [List.mem_cons, List.not_mem_nil, or_false] at hv
  rcases hv with rfl | rfl | rfl | rfl | rfl | rfl | rfl | rfl | rfl <;> rfl
theorem PB.there {g : Nat} {p : Pk} {W : World} (h : PB g p W) : W.there g 0 9 := fun j hj => by
  rw [Nat.zero_add, Joins.cell_of_block h j]
  exact ⟨by rw [Array.getElem?_eq_getElem (show j < (pc p).size from hj)]; rfl, Joins.unfrozen_of_block h j⟩
theorem pz_cells : pc pz = #[.int .u32 0, .int .u32 0, .int .i64 0, .int .i64 0, .int .i64 0, .bool false, .bool false, .int .i64 0, .string ⟨#[]⟩] := rfl

theorem off_bits (O : Nat) (q6 : O ≤ 65535) : ∃ (X1 X2 : Nat) (D1 D2 : Bool) (M : Nat), bits BinOp.and IntKind.i64 (O : Int) 16384 = (X1 : Int) ∧ ((X1 : Int) != 0) = D1 ∧ bits BinOp.and IntKind.i64 (O : Int) 8192 = (X2 : Int) ∧ ((X2 : Int) != 0) = D2 ∧ bits BinOp.and IntKind.i64 (O : Int) 8191 = (M : Int) ∧ D1 = decide (O / 16384 % 2 = 1) ∧ D2 = decide (O / 8192 % 2 = 1) ∧ M = O % 8192 := by
  have a1 := and_bit O 14 16384 rfl q6 (by omega)
  have a2 := and_bit O 13 8192 rfl q6 (by omega)
  have a3 : bits BinOp.and IntKind.i64 (O : Int) 8191 = ((O % 8192 : Nat) : Int) := by
    have := bits_mask .i64 32 (by decide) wraps_i64 13 (by decide) (O : Int) (by omega) (by omega)
    rw [show ((2 : Int) ^ 13 - 1) = 8191 from rfl, show ((2 : Int) ^ 13) = 8192 from rfl] at this
    rw [this]; omega
  refine ⟨_, _, _, _, _, a1, ?_, a2, ?_, a3, rfl, rfl, rfl⟩
  · rcases Nat.mod_two_eq_zero_or_one (O / 16384) with e | e <;> rw [e] <;> rfl
  · rcases Nat.mod_two_eq_zero_or_one (O / 8192) with e | e <;> rw [e] <;> rfl

set_option maxHeartbeats 2000000 in
theorem packet_any (B : Nat → UInt8) (w : World) :
    Calls Try.prog 25 #[hv B] w fun e w' => e = .returned (pv (pk0 B)) ∧ Below w.heap.size w w' := by
  have r0 : Hid (((w.alloc (.cells (hc B) 40)).alloc (.cells (pc pz) 24)).rangeAt w.heap.size 0 (hcl B)) := World.rangeAt_alloc (range_new w (hc B) 40) _
  have b0 : Below w.heap.size w ((w.alloc (.cells (hc B) 40)).alloc (.cells (pc pz) 24)) := ((Below.refl _ _).alloc (Nat.le_refl _) _).alloc (by simp) _
  have P0 : Hid (PB (w.heap.size + 1) pz ((w.alloc (.cells (hc B) 40)).alloc (.cells (pc pz) 24))) := by
    have := PB.new (w.alloc (.cells (hc B) 40)) pz
    rwa [show (w.alloc (.cells (hc B) 40)).heap.size = w.heap.size + 1 from by simp] at this
  have HU := Lib.hid Try.underlying40
  have HI : Hid ((Try.prog.info? 40).map (·.size) = some (hcl B).length) := info40
  have HU24 := Lib.hid Try.underlying24
  have N1 : Hid (∀ (w1 w2 : World), Hid (w1.rangeAt w.heap.size 0 (hcl B)) → Below w1.heap.size w1 w2 → w.heap.size < w1.heap.size → Hid (w2.rangeAt w.heap.size 0 (hcl B))) := fun w1 w2 h hb hg => range_keep h.out hb hg
  have H6 : Hid (∀ w', Calls Try.prog 32 #[hv B, .int .i64 6] w' fun e w'' => e = .returned (.int .i64 (w16 (B 6) (B 7) : Int)) ∧ Below w'.heap.size w' w'') := fun w' => htwo_any B 6 6 w' (by simp)
  have H4 : Hid (∀ w', Calls Try.prog 32 #[hv B, .int .i64 4] w' fun e w'' => e = .returned (.int .i64 (w16 (B 4) (B 5) : Int)) ∧ Below w'.heap.size w' w'') := fun w' => htwo_any B 4 4 w' (by simp)
  have H12 : Hid (∀ w', Calls Try.prog 33 #[hv B, .int .i64 12] w' fun e w'' => e = .returned (.int .u32 (w32 B 12 : Int)) ∧ Below w'.heap.size w' w'') := fun w' => hfour_any B 12 12 w' (by simp)
  have H16 : Hid (∀ w', Calls Try.prog 33 #[hv B, .int .i64 16] w' fun e w'' => e = .returned (.int .u32 (w32 B 16 : Int)) ∧ Below w'.heap.size w' w'') := fun w' => hfour_any B 16 16 w' (by simp)
  have q6 := w16_le (B 6) (B 7)
  obtain ⟨X1, X2, D1, D2, M, a1, n1, a2, n2, a3, e1, e2, e3⟩ := off_bits _ q6
  obtain ⟨RP, hRP⟩ : ∃ RP, RP = pc (pk0 B) := ⟨_, rfl⟩
  have HP : Hid (RP = #[.int .u32 (w32 B 12 : Int), .int .u32 (w32 B 16 : Int), .int .i64 ((B 9).toNat : Int), .int .i64 ((B 8).toNat : Int), .int .i64 (w16 (B 4) (B 5) : Int), .bool D1, .bool D2, .int .i64 (M : Int), .string ⟨#[]⟩]) := by
    show _ = _
    rw [hRP, e1, e2, e3]; rfl
  have HPO : Hid (RP.all (·.oneCell') = true) := by show _ = _; rw [hRP]; exact pc_one (pk0 B)
  have HL : Hid (RP.size = 9) := by show _ = _; rw [hRP]; rfl
  have HRP := Lib.hid hRP
  clear hRP
  have h8 : (B 8).toNat < 256 := (B 8).toNat_lt
  have h9 : (B 9).toNat < 256 := (B 9).toNat_lt
  have v8 : IntKind.i64.wrap ((B 8).toNat : Int) = ((B 8).toNat : Int) := wraps_i64 _ (by omega) (by omega)
  have v9 : IntKind.i64.wrap ((B 9).toNat : Int) = ((B 9).toNat : Int) := wraps_i64 _ (by omega) (by omega)
  clear e1 e2 e3
  generalize w16 (B 6) (B 7) = O at *
  generalize w16 (B 4) (B 5) = ID at *
  generalize w32 B 12 = SR at *
  generalize w32 B 16 = DS at *
  go_enter Try.func25, Try.ntmps25
  go_wp2_with (refine wpList_load_mid rfl _ _ rfl _ _ rfl (hcl B) _ r0.out HU.out rfl HI.out ?_)
  refine (H6.out _).mono ?_; rintro e w1 ⟨rfl, hb1⟩
  have R1 := N1.out _ _ r0 hb1 (by simp; omega)
  have P1 := Lib.hid (P0.out.keep hb1)
  have b1 := b0.trans (hb1.mono (by simp; omega))
  have z1 : w.heap.size < w1.heap.size := by have := hb1.size; simp at this; omega
  go_wp2
  refine wp_region_held_drew (S := fun w' => Hid (w'.rangeAt w.heap.size 0 (hcl B))) (by kernel_rfl) (Lib.hid R1.out) (fun hHeld => ?_)
  refine takeH (i := 0) (d := some 6) rfl rfl (by kernel_rfl) (by kernel_rfl) (by kernel_rfl) (fun _ _ _ h => h) (yieldsIf_load_mid (by rfl) _ _ rfl _ _ rfl (hcl B) _ (fun w' hSw => hSw.out) HU.out rfl HI.out) hHeld ?_
  simp only [Act.put, List.setIfInBounds_toArray, List.set_cons_zero, List.set_cons_succ]
  refine takeH (i := 2) (d := some 8) rfl rfl (by kernel_rfl) (by kernel_rfl) (by kernel_rfl) (fun _ _ _ h => h) (yieldsIf_load_mid (by rfl) _ _ rfl _ _ rfl (hcl B) _ (fun w' hSw => hSw.out) HU.out rfl HI.out) hHeld ?_
  simp only [Act.put, List.setIfInBounds_toArray, List.set_cons_zero, List.set_cons_succ]
  refine takeH (i := 10) (d := some 16) rfl rfl (by kernel_rfl) (by kernel_rfl) (by kernel_rfl) (fun _ _ _ h => h) (yieldsIf_load_mid (by rfl) _ _ rfl _ _ rfl (hcl B) _ (fun w' hSw => hSw.out) HU.out rfl HI.out) hHeld ?_
  simp only [Act.put, List.setIfInBounds_toArray, List.set_cons_zero, List.set_cons_succ]
  refine takeH (i := 4) (d := some 10) (v := ?_) rfl rfl (by kernel_rfl) (by kernel_rfl) (by kernel_rfl) (fun _ _ _ h => h) (Or.inl ⟨by rfl, ?_⟩) hHeld ?_
  rotate_left
  · intro w' hSw; (try dsimp only at hSw); go_simp; try with_reducible rfl
  simp only [Act.put, List.setIfInBounds_toArray, List.set_cons_zero, List.set_cons_succ]
  refine takeH (i := 7) (d := some 13) (v := ?_) rfl rfl (by kernel_rfl) (by kernel_rfl) (by kernel_rfl) (fun _ _ _ h => h) (Or.inl ⟨by rfl, ?_⟩) hHeld ?_
  rotate_left
  · intro w' hSw; (try dsimp only at hSw); go_simp; try with_reducible rfl
  simp only [Act.put, List.setIfInBounds_toArray, List.set_cons_zero, List.set_cons_succ]
  refine takeH (i := 5) (d := some 11) (v := ?_) rfl rfl (by kernel_rfl) (by kernel_rfl) (by kernel_rfl) (fun _ _ _ h => h) (Or.inl ⟨by rfl, ?_⟩) hHeld ?_
  rotate_left
  · intro w' hSw; (try dsimp only at hSw); have hc : w'.cell? ⟨w.heap.size, 9, none⟩ = some (.int .u8 ((B 9).toNat : Int)) := hSw.out 9 _ rfl; clear hSw; go_simp; try with_reducible rfl
  simp only [Act.put, List.setIfInBounds_toArray, List.set_cons_zero, List.set_cons_succ]
  refine takeH (i := 8) (d := some 14) (v := ?_) rfl rfl (by kernel_rfl) (by kernel_rfl) (by kernel_rfl) (fun _ _ _ h => h) (Or.inl ⟨by rfl, ?_⟩) hHeld ?_
  rotate_left
  · intro w' hSw; (try dsimp only at hSw); have hc : w'.cell? ⟨w.heap.size, 8, none⟩ = some (.int .u8 ((B 8).toNat : Int)) := hSw.out 8 _ rfl; clear hSw; go_simp; try with_reducible rfl
  simp only [Act.put, List.setIfInBounds_toArray, List.set_cons_zero, List.set_cons_succ]
  refine takeH (i := 6) (d := some 12) (v := ?_) rfl rfl (by kernel_rfl) (by kernel_rfl) (by kernel_rfl) (fun _ _ _ h => h) (Or.inl ⟨by rfl, ?_⟩) hHeld ?_
  rotate_left
  · intro w' hSw; (try dsimp only at hSw); go_simp; try with_reducible rfl
  simp only [Act.put, List.setIfInBounds_toArray, List.set_cons_zero, List.set_cons_succ]
  refine takeH (i := 9) (d := some 15) (v := ?_) rfl rfl (by kernel_rfl) (by kernel_rfl) (by kernel_rfl) (fun _ _ _ h => h) (Or.inl ⟨by rfl, ?_⟩) hHeld ?_
  rotate_left
  · intro w' hSw; (try dsimp only at hSw); go_simp; try with_reducible rfl
  simp only [Act.put, List.setIfInBounds_toArray, List.set_cons_zero, List.set_cons_succ]
  refine takeH (i := 12) (d := some 18) (v := ?_) rfl rfl (by kernel_rfl) (by kernel_rfl) (by kernel_rfl) (fun _ _ _ h => h) (Or.inl ⟨by rfl, ?_⟩) hHeld ?_
  rotate_left
  · intro w' hSw; (try dsimp only at hSw); go_simp; try with_reducible rfl
  simp only [Act.put, List.setIfInBounds_toArray, List.set_cons_zero, List.set_cons_succ]
  refine takeH (i := 13) (d := some 19) (v := ?_) rfl rfl (by kernel_rfl) (by kernel_rfl) (by kernel_rfl) (fun _ _ _ h => h) (Or.inl ⟨by rfl, ?_⟩) hHeld ?_
  rotate_left
  · intro w' hSw; (try dsimp only at hSw); go_simp; try with_reducible rfl
  simp only [Act.put, List.setIfInBounds_toArray, List.set_cons_zero, List.set_cons_succ]
  refine takeH (i := 14) (d := some 20) (v := ?_) rfl rfl (by kernel_rfl) (by kernel_rfl) (by kernel_rfl) (fun _ _ _ h => h) (Or.inl ⟨by rfl, ?_⟩) hHeld ?_
  rotate_left
  · intro w' hSw; (try dsimp only at hSw); go_simp; try with_reducible rfl
  simp only [Act.put, List.setIfInBounds_toArray, List.set_cons_zero, List.set_cons_succ]
  refine takeH (i := 15) (d := some 21) (v := ?_) rfl rfl (by kernel_rfl) (by kernel_rfl) (by kernel_rfl) (fun _ _ _ h => h) (Or.inl ⟨by rfl, ?_⟩) hHeld ?_
  rotate_left
  · intro w' hSw; (try dsimp only at hSw); go_simp; try with_reducible rfl
  simp only [Act.put, List.setIfInBounds_toArray, List.set_cons_zero, List.set_cons_succ]
  refine takeH (i := 16) (d := some 22) (v := ?_) rfl rfl (by kernel_rfl) (by kernel_rfl) (by kernel_rfl) (fun _ _ _ h => h) (Or.inl ⟨by rfl, ?_⟩) hHeld ?_
  rotate_left
  · intro w' hSw; (try dsimp only at hSw); go_simp; try with_reducible rfl
  simp only [Act.put, List.setIfInBounds_toArray, List.set_cons_zero, List.set_cons_succ]
  refine takeH (i := 17) (d := some 23) (v := ?_) rfl rfl (by kernel_rfl) (by kernel_rfl) (by kernel_rfl) (fun _ _ _ h => h) (Or.inl ⟨by rfl, ?_⟩) hHeld ?_
  rotate_left
  · intro w' hSw; (try dsimp only at hSw); go_simp; try with_reducible rfl
  simp only [Act.put, List.setIfInBounds_toArray, List.set_cons_zero, List.set_cons_succ]
  refine takeH (i := 18) (d := some 24) (v := ?_) rfl rfl (by kernel_rfl) (by kernel_rfl) (by kernel_rfl) (fun _ _ _ h => h) (Or.inl ⟨by rfl, ?_⟩) hHeld ?_
  rotate_left
  · intro w' hSw; (try dsimp only at hSw); go_simp; try with_reducible rfl
  simp only [Act.put, List.setIfInBounds_toArray, List.set_cons_zero, List.set_cons_succ]
  refine takeH (i := 19) (d := some 25) (v := ?_) rfl rfl (by kernel_rfl) (by kernel_rfl) (by kernel_rfl) (fun _ _ _ h => h) (Or.inl ⟨by rfl, ?_⟩) hHeld ?_
  rotate_left
  · intro w' hSw; (try dsimp only at hSw); go_simp; try with_reducible rfl
  simp only [Act.put, List.setIfInBounds_toArray, List.set_cons_zero, List.set_cons_succ]
  refine wpAnyH_ready (rs := [1]) (by kernel_rfl) (by simp) ?_
  refine AllReadyH.cons rfl (fun K hK => ?_) AllReadyH.nil
  go_simp
  refine (H12.out _).mono ?_; rintro e w2 ⟨rfl, hb2⟩
  have R2 := N1.out _ _ hHeld hb2 z1
  have P2 := Lib.hid (P1.out.drew.keep hb2)
  have b2 := b1.drew.trans (hb2.mono (Nat.le_of_lt z1))
  have z2 : w.heap.size < w2.heap.size := Nat.lt_of_lt_of_le z1 hb2.size
  clear hHeld hb2
  refine hK.out _ _ R2 (fun hHeld => ?_)
  clear hK K
  try simp only [Act.put, List.setIfInBounds_toArray, List.set_cons_zero, List.set_cons_succ]
  refine wpAnyH_ready (rs := [3]) (by kernel_rfl) (by simp) ?_
  refine AllReadyH.cons rfl (fun K hK => ?_) AllReadyH.nil
  go_simp
  refine (H16.out _).mono ?_; rintro e w3 ⟨rfl, hb3⟩
  have R3 := N1.out _ _ hHeld hb3 z2
  have P3 := Lib.hid (P2.out.keep hb3)
  have b3 := b2.trans (hb3.mono (Nat.le_of_lt z2))
  have z3 : w.heap.size < w3.heap.size := Nat.lt_of_lt_of_le z2 hb3.size
  clear hHeld hb3
  refine hK.out _ _ R3 (fun hHeld => ?_)
  clear hK K
  try simp only [Act.put, List.setIfInBounds_toArray, List.set_cons_zero, List.set_cons_succ]
  refine wpAnyH_ready (rs := [11]) (by kernel_rfl) (by simp) ?_
  refine AllReadyH.cons rfl (fun K hK => ?_) AllReadyH.nil
  go_simp
  refine (H4.out _).mono ?_; rintro e w4 ⟨rfl, hb4⟩
  have R4 := N1.out _ _ hHeld hb4 z3
  have P4 := Lib.hid (P3.out.keep hb4)
  have b4 := b3.trans (hb4.mono (Nat.le_of_lt z3))
  have z4 : w.heap.size < w4.heap.size := Nat.lt_of_lt_of_le z3 hb4.size
  clear hHeld hb4
  refine hK.out _ _ R4 (fun hHeld => ?_)
  clear hK K
  try simp only [Act.put, List.setIfInBounds_toArray, List.set_cons_zero, List.set_cons_succ]
  refine takeH (i := 20) (d := some 26) (v := ?_) rfl rfl (by kernel_rfl) (by kernel_rfl) (by kernel_rfl) (fun _ _ _ h => h) (Or.inl ⟨by rfl, ?_⟩) hHeld ?_
  rotate_left
  · intro w' hSw; (try dsimp only at hSw); go_simp; try with_reducible rfl
  simp only [Act.put, List.setIfInBounds_toArray, List.set_cons_zero, List.set_cons_succ]
  have HTh : Hid (w4.there (w.heap.size + 1) 0 RP.size) := by show World.there _ _ _ RP.size; rw [HL.out]; exact P4.out.there
  have HIs : Hid ((Try.prog.info? 24).map (·.size) = some RP.size) := by show _ = _; rw [HL.out]; exact info24
  refine wpAnyH_ready (rs := [21]) (by kernel_rfl) (by simp) ?_
  refine AllReadyH.cons rfl (fun K hK => ?_) AllReadyH.nil
  rw [if_pos (by rfl)]
  refine wp_store_mid _ _ _ rfl _ _ RP rfl (by rw [HP.out]; rfl) HTh.out HIs.out HPO.out ?_
  refine hK.out _ _ (Lib.hid (World.rangeAt_setCells_apart hHeld.out _ _ _ (Or.inl (by omega)))) (fun _ => ?_)
  clear hK K
  refine wpAnyH_done (by kernel_rfl) ?_ _
  go_wp2
  have hload : (loadVar 24 ⟨w.heap.size + 1, 0, none⟩).run Try.prog (w4.setCells (w.heap.size + 1) 0 RP.toList) = .ok (.agg RP) (w4.setCells (w.heap.size + 1) 0 RP.toList) := run_loadVar_mid _ _ _ 24 RP.toList _ (World.rangeAt_setCells_same _ _ _ _ HTh.out) HU24.out rfl HIs.out
  exact bodyPost_ret (v := .agg RP) (by simp [results, Try.results25, Act.put, asAddr, hload]) rfl ⟨by rw [HRP.out], below_setCells b4 (by omega) _ _⟩
end Go.Proofs.Ytlkodoiiigndoaa
