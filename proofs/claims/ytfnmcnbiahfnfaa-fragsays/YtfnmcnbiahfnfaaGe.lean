/-
  Contract of packet (package frag): the packet that was put together.
-/
import Derived.Test.YtfnmcnbiahfnfaaGb
import Derived.Test.YtfnmcnbiahfnfaaNb
import Derived.BigRegion
namespace Go.Proofs.Ytfnmcnbiahfnfaa
open Go.RowKit
set_option linter.unusedVariables false
set_option linter.unusedSimpArgs false

/-- The packet that was put together. -/
def gpk (g : Gm) (n : Nm) : Pk := ⟨n.1, n.2.1, n.2.2.1, g.ttl, n.2.2.2, g.dont, false, 0, gstr g g.reach⟩
theorem range_drew {W : World} {b o : Nat} {cs : List Value} (h : W.rangeAt b o cs) : W.drew.rangeAt b o cs := h
theorem told2 (W : World) (g : Nat) (p q : Pk) (h : PB g p W) : (loadVar 24 ⟨g, 0, none⟩).run Try.prog ((W.setCells g 0 (pcl q)).drew) = .ok (pv q) ((W.setCells g 0 (pcl q)).drew) :=
  run_loadVar_mid _ _ _ 24 (pcl q) _ (range_drew (World.rangeAt_setCells_same W g 0 (pcl q) h.there)) Try.underlying24 rfl info24

set_option maxHeartbeats 8000000 in
set_option maxRecDepth 100000 in
theorem packet_any (b : Nat) (g : Gm) (n : Nm) (w : World) (hG : GB b g w) (hr : g.reach ≤ 4000) :
    Calls Try.prog 42 #[.pointer (some ⟨b, 0, none⟩), nv n] w fun e w' => e = .returned (pv (gpk g n)) ∧ Below w.heap.size w w' := by
  have G0 := Lib.hid ((hG.alloc (.cells (nc n) 74)).alloc (.cells pzc 24))
  have N0 := Lib.hid ((NB.new w n).alloc (.cells pzc 24))
  have Z0 : Hid (PB (w.heap.size + 1) pz ((w.alloc (.cells (nc n) 74)).alloc (.cells pzc 24))) := by
    have := PB.newz (w.alloc (.cells (nc n) 74))
    rwa [show (w.alloc (.cells (nc n) 74)).heap.size = w.heap.size + 1 from by simp] at this
  have b0 : Below w.heap.size w ((w.alloc (.cells (nc n) 74)).alloc (.cells pzc 24)) := ((Below.refl _ _).alloc (Nat.le_refl _) _).alloc (by simp) _
  have hbl := hG.lt
  have hstr := (G0.out.drew).str g.reach 4000 hr
  have n0 := N0.out.c0
  have n1 := N0.out.c1
  have n2 := N0.out.c2
  have n3 := N0.out.c3
  have cT := G0.out.cTtl
  have cD := G0.out.cDont
  have cR := G0.out.cReach
  have HP : Hid (gpk g n = ⟨n.1, n.2.1, n.2.2.1, g.ttl, n.2.2.2, g.dont, false, 0, gstr g g.reach⟩) := rfl
  have hri : (g.reach : Int) ≤ 4000 := by omega
  generalize gstr g g.reach = X at *
  have z0 := Z0.out.c0
  have z1 := Z0.out.c1
  have z2 := Z0.out.c2
  have z3 := Z0.out.c3
  have z4 := Z0.out.c4
  have z5 := Z0.out.c5
  have z6 := Z0.out.c6
  have z7 := Z0.out.c7
  have z8 := Z0.out.c8
  have zf := fun i => Z0.out.free i
  clear hG
  go_enter Try.func42, Try.ntmps42
  go_wp2_with fail
  generalize (w.alloc (.cells (nc n) 74)).alloc (.cells pzc 24) = w0 at *
  go_region
  have HR : Hid ((loadVar 24 ⟨w.heap.size + 1, 0, none⟩).run Try.prog ((w0.setCells (w.heap.size + 1) 0 (pcl ⟨n.1, n.2.1, n.2.2.1, g.ttl, n.2.2.2, g.dont, false, 0, X⟩)).drew) = .ok (pv ⟨n.1, n.2.1, n.2.2.1, g.ttl, n.2.2.2, g.dont, false, 0, X⟩) ((w0.setCells (w.heap.size + 1) 0 (pcl ⟨n.1, n.2.1, n.2.2.1, g.ttl, n.2.2.2, g.dont, false, 0, X⟩)).drew)) := told2 w0 (w.heap.size + 1) pz _ Z0.out
  have b9 := (below_setCells b0 (show w.heap.size ≤ w.heap.size + 1 by omega) (pcl ⟨n.1, n.2.1, n.2.2.1, g.ttl, n.2.2.2, g.dont, false, 0, X⟩) 0).drew
  change Exit.then _ _ _ _ ((w0.setCells (w.heap.size + 1) 0 (pcl ⟨n.1, n.2.1, n.2.2.1, g.ttl, n.2.2.2, g.dont, false, 0, X⟩)).drew)
  generalize (w0.setCells (w.heap.size + 1) 0 (pcl ⟨n.1, n.2.1, n.2.2.1, g.ttl, n.2.2.2, g.dont, false, 0, X⟩)).drew = w9 at HR b9 ⊢
  clear hstr n0 n1 n2 n3 cT cD cR z0 z1 z2 z3 z4 z5 z6 z7 z8 zf G0 N0 Z0 b0
  go_wp2_with fail
  exact bodyPost_ret (v := pv (gpk g n)) (by rw [HP.out]; simp only [results, Try.results42, Act.put, asAddr]; simp; exact HR.out) rfl ⟨rfl, b9⟩
end Go.Proofs.Ytfnmcnbiahfnfaa
