/-
  The document's cookie by contract.
-/
import Derived.Test.YtoococeaanndkaaDoorCn
namespace Go.Proofs.YtoococeaanndkaaDoor
open Go.RowKit
set_option linter.unusedVariables false
set_option linter.unusedSimpArgs false

theorem bits_nonneg (o : BinOp) (x y : Int) : 0 ≤ bits o .u64 x y := by
  unfold bits
  simp only [IntKind.wrap_u64]
  omega
theorem pairv_nonneg (k0 k1 : Int) (e f : En) : 0 ≤ pairv k0 k1 e f := by
  unfold pairv sip Sp.fin
  exact bits_nonneg _ _ _
/-- The document's Cookies, handed over. -/
def kv (k0 k1 : Int) : Value := .agg #[.int .u64 k0, .int .u64 k1]
def kcl (k0 k1 : Int) : List Value := [.int .u64 k0, .int .u64 k1]
theorem infoCookies : (Tryd.prog.info? 29).map (·.size) = some 2 := by kernel_rfl
/-- Cookies in a block. -/
def CB (p : Nat) (k0 k1 : Int) (W : World) : Prop := W.heap[p]? = some (.cells #[.int .u64 k0, .int .u64 k1] 29 (0, 0))
section
variable {p : Nat} {k0 k1 : Int} {W W' : World}
theorem CB.lt (h : CB p k0 k1 W) : p < W.heap.size := lt_of_heap h
theorem CB.keep (h : CB p k0 k1 W) (hb : Below W.heap.size W W') : CB p k0 k1 W' := (hb.block _ h.lt).trans h
theorem CB.alloc (h : CB p k0 k1 W) (o : Obj) : CB p k0 k1 (W.alloc o) := (Below.heap_alloc _ _ _ h.lt).trans h
theorem CB.new (k0 k1 : Int) (w : World) : CB w.heap.size k0 k1 (w.alloc (.cells #[.int .u64 k0, .int .u64 k1] 29)) := heap_alloc_new _ _
theorem CB.c0 (h : CB p k0 k1 W) : W.cell? ⟨p, 0, none⟩ = some (.int .u64 k0) := Joins.cell_of_block h 0
theorem CB.c1 (h : CB p k0 k1 W) : W.cell? ⟨p, 1, none⟩ = some (.int .u64 k1) := Joins.cell_of_block h 1
theorem CB.range (h : CB p k0 k1 W) : W.rangeAt p 0 (kcl k0 k1) := fun j u hu => by
  rw [Nat.zero_add, Joins.cell_of_block h j, ← hu]
  exact List.getElem?_toArray
end
structure C3 (p : Nat) (k0 k1 : Int) (e f : En) (W : World) : Prop where
  k : CB p k0 k1 W
  a : EB (p + 1) e W
  b : EB (p + 1 + 1) f W
theorem C3.keep {p : Nat} {k0 k1 : Int} {e f : En} {W W' : World} (h : C3 p k0 k1 e f W) (hb : Below W.heap.size W W') : C3 p k0 k1 e f W' := ⟨h.k.keep hb, h.a.keep hb, h.b.keep hb⟩
def box3 (k0 k1 : Int) (e f : En) (w : World) : World := ((w.alloc (.cells #[.int .u64 k0, .int .u64 k1] 29)).alloc (.cells #[.int .u32 (e.a : Int), .int .i64 e.p] 25)).alloc (.cells #[.int .u32 (f.a : Int), .int .i64 f.p] 25)
theorem C3.new (k0 k1 : Int) (e f : En) (w : World) : C3 w.heap.size k0 k1 e f (box3 k0 k1 e f w) := by
  have h1 : (w.alloc (.cells #[.int .u64 k0, .int .u64 k1] 29)).heap.size = w.heap.size + 1 := by simp
  have := E2.new e f (w.alloc (.cells #[.int .u64 k0, .int .u64 k1] 29))
  rw [h1] at this
  exact ⟨((CB.new k0 k1 w).alloc _).alloc _, this.a, this.b⟩
theorem box3_below (k0 k1 : Int) (e f : En) (w : World) : Below w.heap.size w (box3 k0 k1 e f w) :=
  (((Below.refl _ _).alloc (Nat.le_refl _) _).alloc (by simp) _).alloc (by simp; omega) _

set_option maxHeartbeats 1000000 in
theorem made_any (k0 k1 : Int) (e f : En) (i h : Int) (he : EFits e) (hf : EFits f) (i0 : 0 ≤ i) (i1 : i < 4294967296) (h0 : 0 ≤ h) (h1 : h < 256) (w : World) :
    Calls Tryd.prog 18 #[kv k0 k1, ev e, ev f, .int .u32 i, .int .i64 h] w fun x w' => x = .returned (.int .u32 (ck k0 k1 e f i h)) ∧ Below w.heap.size w w' := by
  have HP : Hid (∀ W, Calls Tryd.prog 21 #[.int .u64 k0, .int .u64 (bits .xor .u64 (bits .xor .u64 k1 i) (h * 4294967296)), ev e, ev f] W fun x w' => x = .returned (.int .u64 (pairv k0 (kx k1 i h) e f)) ∧ Below W.heap.size W w') := fun W => hashpair_any _ (kx k1 i h) e f he hf W
  have HC : Hid (ck k0 k1 e f i h = h * 16777216 + pairv k0 (kx k1 i h) e f % 16777216) := rfl
  have v0 := pairv_nonneg k0 (kx k1 i h) e f
  have HV : Hid ((pairv k0 (kx k1 i h) e f).tmod 16777216 = pairv k0 (kx k1 i h) e f % 16777216) := Int.tmod_eq_emod_of_nonneg v0
  have N0 := Lib.hid (C3.new k0 k1 e f w)
  have L0 := Lib.hid (box3_below k0 k1 e f w)
  have HU := Lib.hid Tryd.underlying25
  have z0 := N0.out.k.c0
  have z1 := N0.out.k.c1
  clear he hf
  unfold box3 at *
  generalize pairv k0 (kx k1 i h) e f = V at *
  unfold ev kv
  go_enter Tryd.func18, Tryd.ntmps18
  go_upto_region 1 with fail
  generalize ((w.alloc (.cells #[.int .u64 k0, .int .u64 k1] 29)).alloc (.cells #[.int .u32 (e.a : Int), .int .i64 e.p] 25)).alloc (.cells #[.int .u32 (f.a : Int), .int .i64 f.p] 25) = W0 at *
  go_wp2_with (first | (refine wpList_load_mid rfl 25 _ rfl _ _ rfl (ecl e) _ (EB.range N0.out.a) HU.out rfl infoEnd ?_) | (refine wpList_load_mid rfl 25 _ rfl _ _ rfl (ecl f) _ (EB.range N0.out.b) HU.out rfl infoEnd ?_))
  refine (HP.out _).mono ?_; rintro x w3 ⟨rfl, hb⟩
  have L1 := Lib.hid (L0.out.trans (hb.mono L0.out.size))
  clear hb N0 L0
  go_wp2_with fail
  go_ret
  exact ⟨ret_int (by rw [HC.out]), L1.out⟩
end Go.Proofs.YtoococeaanndkaaDoor
