/-
  Two ends as twelve bytes: package hash's Pair and the document's.
-/
import Derived.Test.YtoococeaanndkaaDoorRh
import Derived.Test.YtoococeaanndkaaDoorOe
namespace Go.Proofs.YtoococeaanndkaaDoor
open Go.RowKit
set_option linter.unusedVariables false
set_option linter.unusedSimpArgs false

/-- The lowest 16 bits of n. -/
def lo (n : Int) : Nat := (n % 65536).toNat
/-- An end's six bytes. -/
def eb (e : En) : List UInt8 := [UInt8.ofNat (e.a / 16777216), UInt8.ofNat (e.a / 65536), UInt8.ofNat (e.a / 256), UInt8.ofNat e.a, UInt8.ofNat (lo e.p / 256), UInt8.ofNat (lo e.p)]
/-- An end in a box. -/
def EB (b : Nat) (e : En) (W : World) : Prop := W.heap[b]? = some (.cells #[.int .u32 (e.a : Int), .int .i64 e.p] 25 (0, 0))
section
variable {b : Nat} {e : En} {W W' : World}
theorem EB.lt (h : EB b e W) : b < W.heap.size := lt_of_heap h
theorem EB.keep (h : EB b e W) (hb : Below W.heap.size W W') : EB b e W' := (hb.block _ h.lt).trans h
theorem EB.new (e : En) (w : World) : EB w.heap.size e (w.alloc (.cells #[.int .u32 (e.a : Int), .int .i64 e.p] 25)) := heap_alloc_new _ _
theorem EB.c0 (h : EB b e W) : W.cell? ⟨b, 0, none⟩ = some (.int .u32 (e.a : Int)) := Joins.cell_of_block h 0
theorem EB.c1 (h : EB b e W) : W.cell? ⟨b, 1, none⟩ = some (.int .i64 e.p) := Joins.cell_of_block h 1
end

set_option maxHeartbeats 2000000 in
theorem written_any (e : En) (h : EFits e) (w : World) :
    Calls Tryd.prog 23 #[ev e] w fun x w' => x = .returned (.string ⟨(eb e).toArray⟩) ∧ Below w.heap.size w w' := by
  have B0 := Lib.hid (EB.new e w)
  have x0 := B0.out.c0
  have x1 := B0.out.c1
  have hl : (eb e).length = 6 := rfl
  have HL : Hid (#[Value.int .u8 ((e.a : Int) / 16777216), .int .u8 ((e.a : Int) / 65536 % 256), .int .u8 ((e.a : Int) / 256 % 256), .int .u8 ((e.a : Int) % 256), .int .u8 (e.p / 256 % 256), .int .u8 (e.p % 256)] = ((eb e).map fun b => Value.int .u8 (b.toNat : Int)).toArray) := by
    show _ = _
    have ha := h.a
    unfold eb lo
    simp only [List.map_cons, List.map_nil, UInt8.toNat_ofNat']
    rw [show ((e.a : Int) / 16777216) = ((e.a / 16777216 % 2 ^ 8 : Nat) : Int) from by omega, show ((e.a : Int) / 65536 % 256) = ((e.a / 65536 % 2 ^ 8 : Nat) : Int) from by omega, show ((e.a : Int) / 256 % 256) = ((e.a / 256 % 2 ^ 8 : Nat) : Int) from by omega, show ((e.a : Int) % 256) = ((e.a % 2 ^ 8 : Nat) : Int) from by omega, show (e.p / 256 % 256) = (((e.p % 65536).toNat / 256 % 2 ^ 8 : Nat) : Int) from by omega, show (e.p % 256) = (((e.p % 65536).toNat % 2 ^ 8 : Nat) : Int) from by omega]
  have HC : Hid (∀ W : World, W.heap.size = w.heap.size + 1 → (convert 59 9 (.slice (some ⟨w.heap.size + 1, 0, none⟩) 6 6)).run Tryd.prog (W.alloc (.cells #[Value.int .u8 ((e.a : Int) / 16777216), .int .u8 ((e.a : Int) / 65536 % 256), .int .u8 ((e.a : Int) / 256 % 256), .int .u8 ((e.a : Int) % 256), .int .u8 (e.p / 256 % 256), .int .u8 (e.p % 256)] 5)) = .ok (.string ⟨(eb e).toArray⟩) (W.alloc (.cells #[Value.int .u8 ((e.a : Int) / 16777216), .int .u8 ((e.a : Int) / 65536 % 256), .int .u8 ((e.a : Int) / 256 % 256), .int .u8 ((e.a : Int) % 256), .int .u8 (e.p / 256 % 256), .int .u8 (e.p % 256)] 5))) := by
    intro W hW
    have := conv_new W (eb e) 6 _ HL.out
    rw [hW] at this
    exact this
  have ha := h.a
  obtain ⟨p0, p1⟩ := h.p
  have HB : Hid (∀ m, Below w.heap.size w ((w.alloc (.cells #[.int .u32 (e.a : Int), .int .i64 e.p] 25)).drewN m)) := fun m => ((Below.refl _ _).alloc (Nat.le_refl _) _).trans ((below_drewN _ m).mono (by simp))
  unfold ev
  go_enter Tryd.func23, Tryd.ntmps23
  go_wp2_with fail
  go_quiet (fail)
  have hc := HC.out ((w.alloc (.cells #[.int .u32 (e.a : Int), .int .i64 e.p] 25)).drewN nq) (by simp)
  go_wp2
  go_ret
  exact ⟨rfl, (HB.out nq).alloc (by simp) _⟩
end Go.Proofs.YtoococeaanndkaaDoor
