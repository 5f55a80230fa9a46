/-
  Pair of both sides by contract.
-/
import Derived.Test.YtoococeaanndkaaDoorPr
import Derived.Deep.CutBlock
namespace Go.Proofs.YtoococeaanndkaaDoor
open Go.RowKit
set_option linter.unusedVariables false
set_option linter.unusedSimpArgs false

def ecl (e : En) : List Value := [.int .u32 (e.a : Int), .int .i64 e.p]
theorem infoEnd : (Tryd.prog.info? 25).map (·.size) = some 2 := by kernel_rfl
theorem EB.range {b : Nat} {e : En} {W : World} (h : EB b e W) : W.rangeAt b 0 (ecl e) := fun j u hu => by
  rw [Nat.zero_add, Joins.cell_of_block h j, ← hu]
  exact List.getElem?_toArray
/-- Two ends' twelve bytes. -/
def ebT (e : En) : ByteArray := ⟨(eb e).toArray⟩
theorem ebT_size (e : En) : (ebT e).size = 6 := rfl
/-- What Pair is. -/
def pairv (k0 k1 : Int) (e f : En) : Int := sip k0 k1 (eb e ++ eb f)
theorem pair_list (e f : En) : (ebT e ++ ebT f).data.toList = eb e ++ eb f := by
  rw [ByteArray.data_append, Array.toList_append]; rfl
/-- Two boxes. -/
structure E2 (p q : Nat) (e f : En) (W : World) : Prop where
  a : EB p e W
  b : EB q f W
theorem E2.keep {p q : Nat} {e f : En} {W W' : World} (h : E2 p q e f W) (hb : Below W.heap.size W W') : E2 p q e f W' := ⟨h.a.keep hb, h.b.keep hb⟩
theorem EB.alloc {b : Nat} {e : En} {W : World} (h : EB b e W) (o : Obj) : EB b e (W.alloc o) := (Below.heap_alloc _ _ _ h.lt).trans h
theorem E2.new (e f : En) (w : World) : E2 w.heap.size (w.heap.size + 1) e f ((w.alloc (.cells #[.int .u32 (e.a : Int), .int .i64 e.p] 25)).alloc (.cells #[.int .u32 (f.a : Int), .int .i64 f.p] 25)) := by
  have h1 : (w.alloc (.cells #[.int .u32 (e.a : Int), .int .i64 e.p] 25)).heap.size = w.heap.size + 1 := by simp
  exact ⟨(EB.new e w).alloc _, h1 ▸ EB.new f _⟩
theorem e2_below (e f : En) (w : World) : Below w.heap.size w ((w.alloc (.cells #[.int .u32 (e.a : Int), .int .i64 e.p] 25)).alloc (.cells #[.int .u32 (f.a : Int), .int .i64 f.p] 25)) :=
  ((Below.refl _ _).alloc (Nat.le_refl _) _).alloc (by simp) _
set_option maxHeartbeats 2000000 in
theorem pair_any (k0 k1 : Int) (e f : En) (he : EFits e) (hf : EFits f) (w : World) :
    Calls Tryd.prog 20 #[.int .u64 k0, .int .u64 k1, ev e, ev f] w fun x w' => x = .returned (.int .u64 (pairv k0 k1 e f)) ∧ Below w.heap.size w w' := by
  have HE : Hid (∀ W, Calls Tryd.prog 23 #[ev e] W fun x w' => x = .returned (.string (ebT e)) ∧ Below W.heap.size W w') := fun W => written_any e he W
  have HF : Hid (∀ W, Calls Tryd.prog 23 #[ev f] W fun x w' => x = .returned (.string (ebT f)) ∧ Below W.heap.size W w') := fun W => written_any f hf W
  have HS : Hid (∀ W, Calls Tryd.prog 22 #[.int .u64 k0, .int .u64 k1, .string (ebT e ++ ebT f)] W fun x w' => x = .returned (.int .u64 (pairv k0 k1 e f)) ∧ Below W.heap.size W w') := fun W => by
    have := sip_any k0 k1 (ebT e ++ ebT f) (by rw [ByteArray.size_append, ebT_size, ebT_size]; decide) W
    rwa [pair_list] at this
  have N0 := Lib.hid (E2.new e f w)
  have L0 := Lib.hid (e2_below e f w)
  have HU := Lib.hid Tryd.underlying25
  have z1 := ebT_size e
  have z2 := ebT_size f
  unfold ev
  generalize ebT e = T at *
  generalize ebT f = U at *
  go_enter Tryd.func20, Tryd.ntmps20
  go_upto_region 1 with fail
  try simp only [Act.put, List.setIfInBounds_toArray, List.set_cons_zero, List.set_cons_succ]
  generalize ((w.alloc (.cells #[.int .u32 (e.a : Int), .int .i64 e.p] 25)).alloc (.cells #[.int .u32 (f.a : Int), .int .i64 f.p] 25)) = W0 at *
  have N1 : Hid (E2 w.heap.size (w.heap.size + 1) e f W0.drew) := N0.out.keep ((Below.refl _ _).drew)
  have L1 : Hid (Below w.heap.size w W0.drew) := L0.out.trans (((Below.refl _ _).drew).mono L0.out.size)
  clear N0 L0
  refine wp_region_held_drew (S := (E2 w.heap.size (w.heap.size + 1) e f)) (by kernel_rfl) N1.out (fun hHeld => ?_)
  refine takeH (i := 0) (d := some 9) (v := ?_) rfl rfl (by kernel_rfl) (by kernel_rfl) (by kernel_rfl) (fun _ _ _ h => h) (Or.inl ⟨by rfl, ?_⟩) hHeld ?_
  rotate_left
  · intro w' hSw; (try dsimp only at hSw); go_simp; try with_reducible rfl
  simp only [Act.put, List.setIfInBounds_toArray, List.set_cons_zero, List.set_cons_succ]
  refine takeH (i := 1) (d := some 10) (v := ?_) rfl rfl (by kernel_rfl) (by kernel_rfl) (by kernel_rfl) (fun _ _ _ h => h) (Or.inl ⟨by rfl, ?_⟩) hHeld ?_
  rotate_left
  · intro w' hSw; (try dsimp only at hSw); go_simp; try with_reducible rfl
  simp only [Act.put, List.setIfInBounds_toArray, List.set_cons_zero, List.set_cons_succ]
  refine takeH (i := 2) (d := some 11) rfl rfl (by kernel_rfl) (by kernel_rfl) (by kernel_rfl) (fun _ _ _ h => h) (yieldsIf_load_mid (by rfl) _ _ rfl _ _ rfl (ecl e) _ (fun w' hSw => EB.range hSw.a) HU.out rfl infoEnd) hHeld ?_
  simp only [Act.put, List.setIfInBounds_toArray, List.set_cons_zero, List.set_cons_succ]
  refine takeH (i := 4) (d := some 13) rfl rfl (by kernel_rfl) (by kernel_rfl) (by kernel_rfl) (fun _ _ _ h => h) (yieldsIf_load_mid (by rfl) _ _ rfl _ _ rfl (ecl f) _ (fun w' hSw => EB.range hSw.b) HU.out rfl infoEnd) hHeld ?_
  simp only [Act.put, List.setIfInBounds_toArray, List.set_cons_zero, List.set_cons_succ]
  refine wpAnyH_ready (rs := [3]) (by kernel_rfl) (by simp) ?_
  refine AllReadyH.cons rfl (fun K hK => ?_) (AllReadyH.nil)
  go_simp
  refine (HE.out _).mono ?_; rintro x w3 ⟨rfl, hb3⟩
  have N3 := Lib.hid (N1.out.keep hb3)
  have L3 := Lib.hid (L1.out.trans (hb3.mono L1.out.size))
  clear hb3
  clear hHeld
  refine hK.out _ _ N3.out (fun hHeld => ?_)
  clear hK K
  try simp only [Act.put, List.setIfInBounds_toArray, List.set_cons_zero, List.set_cons_succ]
  refine wpAnyH_ready (rs := [5]) (by kernel_rfl) (by simp) ?_
  refine AllReadyH.cons rfl (fun K hK => ?_) (AllReadyH.nil)
  go_simp
  refine (HF.out _).mono ?_; rintro x w5 ⟨rfl, hb5⟩
  have N5 := Lib.hid (N3.out.keep hb5)
  have L5 := Lib.hid (L3.out.trans (hb5.mono L3.out.size))
  clear hb5
  clear hHeld
  refine hK.out _ _ N5.out (fun hHeld => ?_)
  clear hK K
  try simp only [Act.put, List.setIfInBounds_toArray, List.set_cons_zero, List.set_cons_succ]
  refine takeH (i := 6) (d := some 15) (v := ?_) rfl rfl (by kernel_rfl) (by kernel_rfl) (by kernel_rfl) (fun _ _ _ h => h) (Or.inl ⟨by rfl, ?_⟩) hHeld ?_
  rotate_left
  · intro w' hSw; (try dsimp only at hSw); go_simp; try with_reducible rfl
  simp only [Act.put, List.setIfInBounds_toArray, List.set_cons_zero, List.set_cons_succ]
  refine wpAnyH_ready (rs := [7]) (by kernel_rfl) (by simp) ?_
  refine AllReadyH.cons rfl (fun K hK => ?_) (AllReadyH.nil)
  go_simp
  refine (HS.out _).mono ?_; rintro x w7 ⟨rfl, hb7⟩
  have N7 := Lib.hid (N5.out.keep hb7)
  have L7 := Lib.hid (L5.out.trans (hb7.mono L5.out.size))
  clear hb7
  clear hHeld
  refine hK.out _ _ N7.out (fun hHeld => ?_)
  clear hK K
  try simp only [Act.put, List.setIfInBounds_toArray, List.set_cons_zero, List.set_cons_succ]
  refine takeH (i := 8) (d := some 8) (v := ?_) rfl rfl (by kernel_rfl) (by kernel_rfl) (by kernel_rfl) (fun _ _ _ h => h) (Or.inl ⟨by rfl, ?_⟩) hHeld ?_
  rotate_left
  · intro w' hSw; (try dsimp only at hSw); go_simp; try with_reducible rfl
  simp only [Act.put, List.setIfInBounds_toArray, List.set_cons_zero, List.set_cons_succ]
  refine wpAnyH_done (by kernel_rfl) ?_ _
  go_wp2_with fail
  go_ret
  exact ⟨rfl, L7.out⟩
end Go.Proofs.YtoococeaanndkaaDoor
