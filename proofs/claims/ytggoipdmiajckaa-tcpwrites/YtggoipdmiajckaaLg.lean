/-
  Contracts of Length (package tcp) and of the document's TcpLength, for a Body of any size.
-/
import Derived.Test.YtggoipdmiajckaaLn
namespace Go.Proofs.Ytggoipdmiajckaa
open Go.RowKit
set_option linter.unusedVariables false
set_option linter.unusedSimpArgs false

/-- How many numbers a segment takes. -/
def lnw (g : Sg) : Int := IntKind.i64.wrap (IntKind.i64.wrap ((g.body.size : Int) + (g.syn.toNat : Int)) + (g.fin.toNat : Int))
theorem lengthw_any (g : Sg) (w : World) (hb : g.body.size ≤ maxLen) :
    Calls Try.prog 12 #[gv g] w fun e w' => e = .returned (.int .i64 (lnw g)) ∧ Below w.heap.size w w' := by
  obtain ⟨sa, sp, da, dp, sq, ak, syn, ack, fin, rst, win, mss, body⟩ := g
  have hb' : body.size ≤ 9223372036854775807 := hb
  have v0 : IntKind.i64.wrap (body.size : Int) = (body.size : Int) := by rw [IntKind.wrap_i64]; omega
  have w1 : wrap64 ((body.size : Int) + 1) = IntKind.i64.wrap ((body.size : Int) + 1) := by rw [IntKind.wrap_i64]; unfold wrap64; omega
  have w2 : wrap64 (IntKind.i64.wrap ((body.size : Int) + 1) + 1) = IntKind.i64.wrap (IntKind.i64.wrap ((body.size : Int) + 1) + 1) := by rw [IntKind.wrap_i64 (IntKind.i64.wrap ((body.size : Int) + 1) + 1)]; unfold wrap64; omega
  have u1 : IntKind.i64.wrap (IntKind.i64.wrap ((body.size : Int) + 1)) = IntKind.i64.wrap ((body.size : Int) + 1) := by simp only [IntKind.wrap_i64]; omega
  have HL : Hid (lnw ⟨sa, sp, da, dp, sq, ak, syn, ack, fin, rst, win, mss, body⟩ = IntKind.i64.wrap (IntKind.i64.wrap ((body.size : Int) + (syn.toNat : Int)) + (fin.toNat : Int))) := rfl
  generalize lnw ⟨sa, sp, da, dp, sq, ak, syn, ack, fin, rst, win, mss, body⟩ = R at *
  generalize hA : IntKind.i64.wrap ((body.size : Int) + 1) = A at *
  generalize hB : IntKind.i64.wrap (A + 1) = B at *
  have HA := Lib.hid hA
  have HB := Lib.hid hB
  have HV := Lib.hid v0
  have HU := Lib.hid u1
  clear hb v0 u1
  cases syn <;> cases fin
  · clear hA hB w1 w2
    go_enter Try.func12, Try.ntmps12
    go_wp2
    go_ret
    exact ⟨ret_int (by rw [HL.out]; simp [HV.out]), (Below.refl _ _).alloc (Nat.le_refl _) _⟩
  · go_enter Try.func12, Try.ntmps12
    go_wp2
    go_ret
    exact ⟨ret_int (by rw [HL.out]; simp [HV.out, HA.out]), (Below.refl _ _).alloc (Nat.le_refl _) _⟩
  · go_enter Try.func12, Try.ntmps12
    go_wp2
    go_ret
    exact ⟨ret_int (by rw [HL.out]; simp [HA.out, HU.out]), (Below.refl _ _).alloc (Nat.le_refl _) _⟩
  · go_enter Try.func12, Try.ntmps12
    go_wp2
    go_ret
    exact ⟨ret_int (by rw [HL.out]; simp [HA.out, HB.out]), (Below.refl _ _).alloc (Nat.le_refl _) _⟩

theorem rlengthw_any (g : Sg) (w : World) (hb : g.body.size ≤ maxLen) :
    Calls Try.prog 13 #[gv g] w fun e w' => e = .returned (.int .i64 (lnw g)) ∧ Below w.heap.size w w' := by
  have HA : Hid (∀ w', Calls Try.prog 25 #[.bool g.syn] w' fun e w'' => e = .returned (.int .i64 (g.syn.toNat : Int)) ∧ w'' = w') := fun w' => truth_any _ w'
  have HB : Hid (∀ w', Calls Try.prog 25 #[.bool g.fin] w' fun e w'' => e = .returned (.int .i64 (g.fin.toNat : Int)) ∧ w'' = w') := fun w' => truth_any _ w'
  have HL : Hid (lnw g = IntKind.i64.wrap (IntKind.i64.wrap ((g.body.size : Int) + (g.syn.toNat : Int)) + (g.fin.toNat : Int))) := rfl
  have b0 : Below w.heap.size w (w.alloc (.cells (gc g) 26)) := (Below.refl _ _).alloc (Nat.le_refl _) _
  have P0 := Lib.hid (GB.new w g)
  generalize lnw g = R at *
  generalize g.syn.toNat = A at *
  generalize g.fin.toNat = B at *
  generalize hC : IntKind.i64.wrap ((g.body.size : Int) + (A : Int)) = C at *
  generalize hD : IntKind.i64.wrap (C + (B : Int)) = D at *
  go_enter Try.func13, Try.ntmps13
  go_wp2_with fail
  refine wp_region_held_drew (S := fun w' => Hid (GB w.heap.size g w')) (by kernel_rfl) (Lib.hid P0.out.drew) (fun hHeld => ?_)
  refine takeH (i := 0) (d := some 3) (v := ?_) rfl rfl (by kernel_rfl) (by kernel_rfl) (by kernel_rfl) (fun _ _ _ h => h) (Or.inl ⟨by rfl, ?_⟩) hHeld ?_
  rotate_left
  · intro w' hSw; (try dsimp only at hSw); go_simp; try with_reducible rfl
  simp only [Act.put, List.setIfInBounds_toArray, List.set_cons_zero, List.set_cons_succ]
  refine takeH (i := 3) (d := some 6) (v := ?_) rfl rfl (by kernel_rfl) (by kernel_rfl) (by kernel_rfl) (fun _ _ _ h => h) (Or.inl ⟨by rfl, ?_⟩) hHeld ?_
  rotate_left
  · intro w' hSw; (try dsimp only at hSw); go_simp; try with_reducible rfl
  simp only [Act.put, List.setIfInBounds_toArray, List.set_cons_zero, List.set_cons_succ]
  refine takeH (i := 7) (d := some 10) (v := ?_) rfl rfl (by kernel_rfl) (by kernel_rfl) (by kernel_rfl) (fun _ _ _ h => h) (Or.inl ⟨by rfl, ?_⟩) hHeld ?_
  rotate_left
  · intro w' hSw; (try dsimp only at hSw); go_simp; try with_reducible rfl
  simp only [Act.put, List.setIfInBounds_toArray, List.set_cons_zero, List.set_cons_succ]
  refine takeH (i := 1) (d := some 4) (v := ?_) rfl rfl (by kernel_rfl) (by kernel_rfl) (by kernel_rfl) (fun _ _ _ h => h) (Or.inl ⟨by rfl, ?_⟩) hHeld ?_
  rotate_left
  · intro w' hSw; (try dsimp only at hSw); have hc := hSw.out.c12; clear hSw; go_simp; try with_reducible rfl
  simp only [Act.put, List.setIfInBounds_toArray, List.set_cons_zero, List.set_cons_succ]
  refine takeH (i := 4) (d := some 7) (v := ?_) rfl rfl (by kernel_rfl) (by kernel_rfl) (by kernel_rfl) (fun _ _ _ h => h) (Or.inl ⟨by rfl, ?_⟩) hHeld ?_
  rotate_left
  · intro w' hSw; (try dsimp only at hSw); have hc := hSw.out.c6; clear hSw; go_simp; try with_reducible rfl
  simp only [Act.put, List.setIfInBounds_toArray, List.set_cons_zero, List.set_cons_succ]
  refine takeH (i := 8) (d := some 11) (v := ?_) rfl rfl (by kernel_rfl) (by kernel_rfl) (by kernel_rfl) (fun _ _ _ h => h) (Or.inl ⟨by rfl, ?_⟩) hHeld ?_
  rotate_left
  · intro w' hSw; (try dsimp only at hSw); have hc := hSw.out.c8; clear hSw; go_simp; try with_reducible rfl
  simp only [Act.put, List.setIfInBounds_toArray, List.set_cons_zero, List.set_cons_succ]
  refine takeH (i := 2) (d := some 5) (v := ?_) rfl rfl (by kernel_rfl) (by kernel_rfl) (by kernel_rfl) (fun _ _ _ h => h) (Or.inl ⟨by rfl, ?_⟩) hHeld ?_
  rotate_left
  · intro w' hSw; (try dsimp only at hSw); go_simp; try with_reducible rfl
  simp only [Act.put, List.setIfInBounds_toArray, List.set_cons_zero, List.set_cons_succ]
  refine wpAnyH_ready (rs := [5]) (by kernel_rfl) (by simp) ?_
  refine AllReadyH.cons rfl (fun K hK => ?_) AllReadyH.nil
  go_simp
  refine (HA.out _).mono ?_; rintro e u1 ⟨rfl, rfl⟩
  have Q1 := hHeld
  clear hHeld
  refine hK.out _ _ Q1 (fun hHeld => ?_)
  clear hK K
  try simp only [Act.put, List.setIfInBounds_toArray, List.set_cons_zero, List.set_cons_succ]
  refine takeH (i := 6) (d := some 9) (v := ?_) rfl rfl (by kernel_rfl) (by kernel_rfl) (by kernel_rfl) (fun _ _ _ h => h) (Or.inl ⟨by rfl, ?_⟩) hHeld ?_
  rotate_left
  · intro w' hSw; (try dsimp only at hSw); go_simp; try with_reducible rfl
  simp only [Act.put, List.setIfInBounds_toArray, List.set_cons_zero, List.set_cons_succ]
  refine wpAnyH_ready (rs := [9]) (by kernel_rfl) (by simp) ?_
  refine AllReadyH.cons rfl (fun K hK => ?_) AllReadyH.nil
  go_simp
  refine (HB.out _).mono ?_; rintro e u1 ⟨rfl, rfl⟩
  have Q2 := hHeld
  clear hHeld
  refine hK.out _ _ Q2 (fun hHeld => ?_)
  clear hK K
  try simp only [Act.put, List.setIfInBounds_toArray, List.set_cons_zero, List.set_cons_succ]
  refine takeH (i := 10) (d := some 13) (v := ?_) rfl rfl (by kernel_rfl) (by kernel_rfl) (by kernel_rfl) (fun _ _ _ h => h) (Or.inl ⟨by rfl, ?_⟩) hHeld ?_
  rotate_left
  · intro w' hSw; (try dsimp only at hSw); go_simp; try with_reducible rfl
  simp only [Act.put, List.setIfInBounds_toArray, List.set_cons_zero, List.set_cons_succ]
  refine takeH (i := 11) (d := some 2) (v := ?_) rfl rfl (by kernel_rfl) (by kernel_rfl) (by kernel_rfl) (fun _ _ _ h => h) (Or.inl ⟨by rfl, ?_⟩) hHeld ?_
  rotate_left
  · intro w' hSw; (try dsimp only at hSw); go_simp; try with_reducible rfl
  simp only [Act.put, List.setIfInBounds_toArray, List.set_cons_zero, List.set_cons_succ]
  refine wpAnyH_done (by kernel_rfl) ?_ _
  go_wp2
  go_ret
  exact ⟨ret_int HL.out.symm, b0.drew⟩

end Go.Proofs.Ytggoipdmiajckaa
