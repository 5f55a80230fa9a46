/-
  A cookie; package cookie's New and what makes a cookie of slot and step.
-/
import Derived.Test.YtoococeaanndkaaDoorCk
import Derived.Test.YtoococeaanndkaaDoorPb
namespace Go.Proofs.YtoococeaanndkaaDoor
open Go.RowKit
set_option linter.unusedVariables false
set_option linter.unusedSimpArgs false

/-- The key's second half with irs and the first 8 bits in it. -/
def kx (k1 i h : Int) : Int := bits .xor .u64 (bits .xor .u64 k1 i) (h * 4294967296)
/-- A cookie of the first 8 bits h. -/
def ck (k0 k1 : Int) (e f : En) (i h : Int) : Int := h * 16777216 + pairv k0 (kx k1 i h) e f % 16777216
/-- A Key. -/
def KB (p : Nat) (k0 k1 : Int) (W : World) : Prop := W.heap[p]? = some (.cells #[.int .u64 k0, .int .u64 k1] 40 (0, 0))
section
variable {p : Nat} {k0 k1 : Int} {W W' : World}
theorem KB.lt (h : KB p k0 k1 W) : p < W.heap.size := lt_of_heap h
theorem KB.keep (h : KB p k0 k1 W) (hb : Below W.heap.size W W') : KB p k0 k1 W' := (hb.block _ h.lt).trans h
theorem KB.alloc (h : KB p k0 k1 W) (o : Obj) : KB p k0 k1 (W.alloc o) := (Below.heap_alloc _ _ _ h.lt).trans h
theorem KB.new (k0 k1 : Int) (w : World) : KB w.heap.size k0 k1 (w.alloc (.cells #[.int .u64 k0, .int .u64 k1] 40)) := heap_alloc_new _ _
theorem KB.c0 (h : KB p k0 k1 W) : W.cell? ⟨p, 0, none⟩ = some (.int .u64 k0) := Joins.cell_of_block h 0
theorem KB.c1 (h : KB p k0 k1 W) : W.cell? ⟨p, 1, none⟩ = some (.int .u64 k1) := Joins.cell_of_block h 1
end
/-- A Key and two boxes. -/
structure K3 (p : Nat) (k0 k1 : Int) (q r : Nat) (e f : En) (W : World) : Prop where
  k : KB p k0 k1 W
  a : EB q e W
  b : EB r f W
theorem K3.keep {p q r : Nat} {k0 k1 : Int} {e f : En} {W W' : World} (h : K3 p k0 k1 q r e f W) (hb : Below W.heap.size W W') : K3 p k0 k1 q r e f W' := ⟨h.k.keep hb, h.a.keep hb, h.b.keep hb⟩
theorem K3.new {p : Nat} {k0 k1 : Int} {w : World} (h : KB p k0 k1 w) (e f : En) : K3 p k0 k1 w.heap.size (w.heap.size + 1) e f ((w.alloc (.cells #[.int .u32 (e.a : Int), .int .i64 e.p] 25)).alloc (.cells #[.int .u32 (f.a : Int), .int .i64 f.p] 25)) :=
  ⟨(h.alloc _).alloc _, (E2.new e f w).a, (E2.new e f w).b⟩

theorem new_any (k0 k1 : Int) (w : World) : Calls Tryd.prog 7 #[.int .u64 k0, .int .u64 k1] w fun x w' => x = .returned (.pointer (some ⟨w.heap.size, 0, none⟩)) ∧ KB w.heap.size k0 k1 w' ∧ Below w.heap.size w w' := by
  have N0 := Lib.hid (KB.new k0 k1 w)
  have L0 : Hid (Below w.heap.size w (w.alloc (.cells #[.int .u64 k0, .int .u64 k1] 40))) := (Below.refl _ _).alloc (Nat.le_refl _) _
  go_enter Tryd.func7, Tryd.ntmps7
  go_wp2_with fail
  go_ret
  exact ⟨rfl, N0.out, L0.out⟩

theorem mask24 (n : Int) : bits .and .u32 (IntKind.u32.wrap n) 16777215 = n % 16777216 := by
  have := bits_mask .u32 32 (by decide) wraps_u32' 24 (by decide) (IntKind.u32.wrap n) (by rw [IntKind.wrap_u32]; omega) (by rw [IntKind.wrap_u32]; omega)
  have e : ((2 : Int) ^ 24 - 1) = 16777215 := by decide
  rw [e] at this
  rw [this, IntKind.wrap_u32]
  omega
theorem join24 (h y : Int) (h0 : 0 ≤ h) (h1 : h < 256) (y0 : 0 ≤ y) (y1 : y < 16777216) : bits .or .u32 (IntKind.u32.wrap (h * 16777216)) y = h * 16777216 + y := by
  rw [IntKind.wrap_u32, Int.emod_eq_of_lt (by omega) (by omega)]
  exact bits_join .u32 32 (by decide) wraps_u32' 24 _ _ (by omega) (by omega) (by omega) (by omega) (by omega) (by omega)
set_option maxHeartbeats 2000000 in
theorem cookie_any {p : Nat} {k0 k1 : Int} (e f : En) (i h : Int) (he : EFits e) (hf : EFits f) (i0 : 0 ≤ i) (i1 : i < 4294967296) (h0 : 0 ≤ h) (h1 : h < 256) (w : World) (hk : KB p k0 k1 w) :
    Calls Tryd.prog 14 #[.pointer (some ⟨p, 0, none⟩), ev e, ev f, .int .u32 i, .int .u32 h] w fun x w' => x = .returned (.int .u32 (ck k0 k1 e f i h)) ∧ Below w.heap.size w w' := by
  have HP : Hid (∀ W, Calls Tryd.prog 20 #[.int .u64 k0, .int .u64 (bits .xor .u64 (bits .xor .u64 k1 (IntKind.u64.wrap i)) (IntKind.u64.wrap (IntKind.u64.wrap h * 4294967296))), ev e, ev f] W fun x w' => x = .returned (.int .u64 (pairv k0 (kx k1 i h) e f)) ∧ Below W.heap.size W w') := fun W => by
    have hx : bits .xor .u64 (bits .xor .u64 k1 (IntKind.u64.wrap i)) (IntKind.u64.wrap (IntKind.u64.wrap h * 4294967296)) = kx k1 i h := by
      rw [wraps_u64' i (by omega) (by omega), wraps_u64' h (by omega) (by omega), wraps_u64' (h * 4294967296) (by omega) (by omega)]
      rfl
    rw [hx]
    exact pair_any _ _ e f he hf W
  have HC : Hid (bits .or .u32 (h * 16777216) (bits .and .u32 (pairv k0 (kx k1 i h) e f % 4294967296) 16777215) = ck k0 k1 e f i h) := by
    show _ = _
    have := mask24 (pairv k0 (kx k1 i h) e f)
    rw [IntKind.wrap_u32] at this
    rw [this]
    have hj := join24 h (pairv k0 (kx k1 i h) e f % 16777216) h0 h1 (by omega) (by omega)
    rw [IntKind.wrap_u32, Int.emod_eq_of_lt (by omega) (by omega)] at hj
    exact hj
  have N0 := Lib.hid (K3.new hk e f)
  have L0 := Lib.hid (e2_below e f w)
  have HU := Lib.hid Tryd.underlying25
  clear hk he hf
  generalize pairv k0 (kx k1 i h) e f = V at *
  generalize ck k0 k1 e f i h = C at *
  unfold ev
  go_enter Tryd.func14, Tryd.ntmps14
  go_upto_region 1 with fail
  try simp only [Act.put, List.setIfInBounds_toArray, List.set_cons_zero, List.set_cons_succ]
  generalize ((w.alloc (.cells #[.int .u32 (e.a : Int), .int .i64 e.p] 25)).alloc (.cells #[.int .u32 (f.a : Int), .int .i64 f.p] 25)) = W0 at *
  have N1 : Hid (K3 p k0 k1 w.heap.size (w.heap.size + 1) e f W0.drew) := N0.out.keep ((Below.refl _ _).drew)
  have L1 : Hid (Below w.heap.size w W0.drew) := L0.out.trans (((Below.refl _ _).drew).mono L0.out.size)
  clear N0 L0
  refine wp_region_held_drew (S := (K3 p k0 k1 w.heap.size (w.heap.size + 1) e f)) (by kernel_rfl) N1.out (fun hHeld => ?_)
  refine takeH (i := 0) (d := some 12) (v := ?_) rfl rfl (by kernel_rfl) (by kernel_rfl) (by kernel_rfl) (fun _ _ _ h => h) (Or.inl ⟨by rfl, ?_⟩) hHeld ?_
  rotate_left
  · intro w' hSw; (try dsimp only at hSw); go_simp; try with_reducible rfl
  simp only [Act.put, List.setIfInBounds_toArray, List.set_cons_zero, List.set_cons_succ]
  refine takeH (i := 1) (d := some 13) (v := ?_) rfl rfl (by kernel_rfl) (by kernel_rfl) (by kernel_rfl) (fun _ _ _ h => h) (Or.inl ⟨by rfl, ?_⟩) hHeld ?_
  rotate_left
  · intro w' hSw; (try dsimp only at hSw); go_simp; try with_reducible rfl
  simp only [Act.put, List.setIfInBounds_toArray, List.set_cons_zero, List.set_cons_succ]
  refine takeH (i := 2) (d := some 14) (v := ?_) rfl rfl (by kernel_rfl) (by kernel_rfl) (by kernel_rfl) (fun _ _ _ h => h) (Or.inl ⟨by rfl, ?_⟩) hHeld ?_
  rotate_left
  · intro w' hSw; (try dsimp only at hSw); go_simp; try with_reducible rfl
  simp only [Act.put, List.setIfInBounds_toArray, List.set_cons_zero, List.set_cons_succ]
  refine takeH (i := 3) (d := some 15) (v := ?_) rfl rfl (by kernel_rfl) (by kernel_rfl) (by kernel_rfl) (fun _ _ _ h => h) (Or.inl ⟨by rfl, ?_⟩) hHeld ?_
  rotate_left
  · intro w' hSw; (try dsimp only at hSw); have z := hSw.k.c0; go_simp; try with_reducible rfl
  simp only [Act.put, List.setIfInBounds_toArray, List.set_cons_zero, List.set_cons_succ]
  refine takeH (i := 4) (d := some 16) (v := ?_) rfl rfl (by kernel_rfl) (by kernel_rfl) (by kernel_rfl) (fun _ _ _ h => h) (Or.inl ⟨by rfl, ?_⟩) hHeld ?_
  rotate_left
  · intro w' hSw; (try dsimp only at hSw); go_simp; try with_reducible rfl
  simp only [Act.put, List.setIfInBounds_toArray, List.set_cons_zero, List.set_cons_succ]
  refine takeH (i := 5) (d := some 17) (v := ?_) rfl rfl (by kernel_rfl) (by kernel_rfl) (by kernel_rfl) (fun _ _ _ h => h) (Or.inl ⟨by rfl, ?_⟩) hHeld ?_
  rotate_left
  · intro w' hSw; (try dsimp only at hSw); go_simp; try with_reducible rfl
  simp only [Act.put, List.setIfInBounds_toArray, List.set_cons_zero, List.set_cons_succ]
  refine takeH (i := 6) (d := some 18) (v := ?_) rfl rfl (by kernel_rfl) (by kernel_rfl) (by kernel_rfl) (fun _ _ _ h => h) (Or.inl ⟨by rfl, ?_⟩) hHeld ?_
  rotate_left
  · intro w' hSw; (try dsimp only at hSw); go_simp; try with_reducible rfl
  simp only [Act.put, List.setIfInBounds_toArray, List.set_cons_zero, List.set_cons_succ]
  refine takeH (i := 7) (d := some 19) (v := ?_) rfl rfl (by kernel_rfl) (by kernel_rfl) (by kernel_rfl) (fun _ _ _ h => h) (Or.inl ⟨by rfl, ?_⟩) hHeld ?_
  rotate_left
  · intro w' hSw; (try dsimp only at hSw); have z := hSw.k.c1; go_simp; try with_reducible rfl
  simp only [Act.put, List.setIfInBounds_toArray, List.set_cons_zero, List.set_cons_succ]
  refine takeH (i := 8) (d := some 20) (v := ?_) rfl rfl (by kernel_rfl) (by kernel_rfl) (by kernel_rfl) (fun _ _ _ h => h) (Or.inl ⟨by rfl, ?_⟩) hHeld ?_
  rotate_left
  · intro w' hSw; (try dsimp only at hSw); go_simp; try with_reducible rfl
  simp only [Act.put, List.setIfInBounds_toArray, List.set_cons_zero, List.set_cons_succ]
  refine takeH (i := 9) (d := some 21) (v := ?_) rfl rfl (by kernel_rfl) (by kernel_rfl) (by kernel_rfl) (fun _ _ _ h => h) (Or.inl ⟨by rfl, ?_⟩) hHeld ?_
  rotate_left
  · intro w' hSw; (try dsimp only at hSw); go_simp; try with_reducible rfl
  simp only [Act.put, List.setIfInBounds_toArray, List.set_cons_zero, List.set_cons_succ]
  refine takeH (i := 10) (d := some 22) (v := ?_) rfl rfl (by kernel_rfl) (by kernel_rfl) (by kernel_rfl) (fun _ _ _ h => h) (Or.inl ⟨by rfl, ?_⟩) hHeld ?_
  rotate_left
  · intro w' hSw; (try dsimp only at hSw); go_simp; try with_reducible rfl
  simp only [Act.put, List.setIfInBounds_toArray, List.set_cons_zero, List.set_cons_succ]
  refine takeH (i := 11) (d := some 23) (v := ?_) rfl rfl (by kernel_rfl) (by kernel_rfl) (by kernel_rfl) (fun _ _ _ h => h) (Or.inl ⟨by rfl, ?_⟩) hHeld ?_
  rotate_left
  · intro w' hSw; (try dsimp only at hSw); go_simp; try with_reducible rfl
  simp only [Act.put, List.setIfInBounds_toArray, List.set_cons_zero, List.set_cons_succ]
  refine takeH (i := 12) (d := some 24) (v := ?_) rfl rfl (by kernel_rfl) (by kernel_rfl) (by kernel_rfl) (fun _ _ _ h => h) (Or.inl ⟨by rfl, ?_⟩) hHeld ?_
  rotate_left
  · intro w' hSw; (try dsimp only at hSw); go_simp; try with_reducible rfl
  simp only [Act.put, List.setIfInBounds_toArray, List.set_cons_zero, List.set_cons_succ]
  refine takeH (i := 13) (d := some 25) (v := ?_) rfl rfl (by kernel_rfl) (by kernel_rfl) (by kernel_rfl) (fun _ _ _ h => h) (Or.inl ⟨by rfl, ?_⟩) hHeld ?_
  rotate_left
  · intro w' hSw; (try dsimp only at hSw); go_simp; try with_reducible rfl
  simp only [Act.put, List.setIfInBounds_toArray, List.set_cons_zero, List.set_cons_succ]
  refine takeH (i := 14) (d := some 26) (v := ?_) rfl rfl (by kernel_rfl) (by kernel_rfl) (by kernel_rfl) (fun _ _ _ h => h) (Or.inl ⟨by rfl, ?_⟩) hHeld ?_
  rotate_left
  · intro w' hSw; (try dsimp only at hSw); go_simp; try with_reducible rfl
  simp only [Act.put, List.setIfInBounds_toArray, List.set_cons_zero, List.set_cons_succ]
  refine takeH (i := 15) (d := some 27) rfl rfl (by kernel_rfl) (by kernel_rfl) (by kernel_rfl) (fun _ _ _ h => h) (yieldsIf_load_mid (by rfl) _ _ rfl _ _ rfl (ecl e) _ (fun w' hSw => EB.range hSw.a) HU.out rfl infoEnd) hHeld ?_
  simp only [Act.put, List.setIfInBounds_toArray, List.set_cons_zero, List.set_cons_succ]
  refine takeH (i := 16) (d := some 28) rfl rfl (by kernel_rfl) (by kernel_rfl) (by kernel_rfl) (fun _ _ _ h => h) (yieldsIf_load_mid (by rfl) _ _ rfl _ _ rfl (ecl f) _ (fun w' hSw => EB.range hSw.b) HU.out rfl infoEnd) hHeld ?_
  simp only [Act.put, List.setIfInBounds_toArray, List.set_cons_zero, List.set_cons_succ]
  refine wpAnyH_ready (rs := [17]) (by kernel_rfl) (by simp) ?_
  refine AllReadyH.cons rfl (fun K hK => ?_) (AllReadyH.nil)
  go_simp
  refine (HP.out _).mono ?_; rintro x w2 ⟨rfl, hb2⟩
  have N2 := Lib.hid (N1.out.keep hb2)
  have L2 := Lib.hid (L1.out.trans (hb2.mono L1.out.size))
  clear hb2
  clear hHeld
  refine hK.out _ _ N2.out (fun hHeld => ?_)
  clear hK K
  try simp only [Act.put, List.setIfInBounds_toArray, List.set_cons_zero, List.set_cons_succ]
  refine takeH (i := 18) (d := some 11) (v := ?_) rfl rfl (by kernel_rfl) (by kernel_rfl) (by kernel_rfl) (fun _ _ _ h => h) (Or.inl ⟨by rfl, ?_⟩) hHeld ?_
  rotate_left
  · intro w' hSw; (try dsimp only at hSw); go_simp; try with_reducible rfl
  simp only [Act.put, List.setIfInBounds_toArray, List.set_cons_zero, List.set_cons_succ]
  refine wpAnyH_done (by kernel_rfl) ?_ _
  go_wp2_with fail
  go_ret
  exact ⟨ret_int HC.out, L2.out⟩
end Go.Proofs.YtoococeaanndkaaDoor
