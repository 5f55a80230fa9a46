/-
  Contract of Eq at integers: two slices that hold the same numbers are equal.
-/
import Derived.Test.YtdigdmljhfljoaaRef
namespace Go.Proofs.Ytdigdmljhfljoaa
open Go.RowKit
set_option linter.unusedVariables false

/-- The numbers of a row at a block's head. -/
def rowAt (w : World) (b : Nat) (zs : List Int) : Prop := ∀ k, (h : k < zs.length) → w.cell? ⟨b, k, none⟩ = some (.int .i64 zs[k])
theorem rowAt_below {w w' : World} {b : Nat} {zs : List Int} (h : rowAt w b zs) {B : Nat} (hb : b < B) (hw : Below B w w') : rowAt w' b zs := fun k hk => (hw.cell (p := ⟨b, k, none⟩) hb).trans (h k hk)
theorem rowAt_new (w : World) (zs : List Int) (t : TypeId) (C : Array Value) (hC : C = (zs.map (Value.int .i64)).toArray) : rowAt (w.alloc (.cells C t)) w.heap.size zs := by
  intro k hk
  refine (World.cell?_alloc_mark w C t (0, 0) k).trans ?_
  subst hC
  simp [List.getElem?_eq_getElem hk]

set_option maxHeartbeats 400000 in
theorem eq_same (zs : List Int) (b1 b2 c1 c2 n : Nat) (w : World) (hn : zs.length = n) (hl : n ≤ 1000000) (h1 : rowAt w b1 zs) (h2 : rowAt w b2 zs) :
    Calls Try.prog 9 #[.slice (some ⟨b1, 0, none⟩) n c1, .slice (some ⟨b2, 0, none⟩) n c2] w fun e w' => e = .returned (.bool true) ∧ w' = w := by
  have H1 : Hid (rowAt w b1 zs) := h1
  have H2 : Hid (rowAt w b2 zs) := h2
  clear h1 h2
  go_enter Try.func9, Try.ntmps9
  go_wp2
  go_loop [14] (fun i => ∃ k : Nat, k ≤ n ∧ i = .int .i64 k) (fun i => n - (intOf i).toNat)
  case atStart => exact ⟨0, Nat.zero_le _, rfl⟩
  case round =>
    obtain ⟨k, hk, rfl⟩ := hrel
    by_cases hlt : k < n
    · have d1 := H1.out k (by omega)
      have d2 := H2.out k (by omega)
      clear H1 H2
      generalize zs[k]'(by omega) = v at *
      go_wp2
      go_round
      case rel => exact ⟨k + 1, by omega, by go_num⟩
      case measure => simp [intOf]; omega
    · go_wp2
      go_ret
      exact ⟨rfl, rfl⟩

def errs20 : List Int := [0, 1, 2, 3, 4, 5, 6, 7, 8, 9, 10, 11, 12, 13, 14, 15, 16, 17, 18, 19]
def states10 : List Int := [0, 1, 2, 3, 4, 5, 6, 7, 8, 9]
theorem errs_at : ∀ k : Fin 20, errs20[k.val]'(k.isLt) = (k.val : Int) := by decide
theorem states_at : ∀ k : Fin 10, states10[k.val]'(k.isLt) = (k.val : Int) := by decide
theorem errs_cell {w : World} {b : Nat} (h : rowAt w b errs20) (k : Nat) (hk : k < 20) : w.cell? ⟨b, k, none⟩ = some (.int .i64 (k : Int)) := by
  rw [h k hk]; exact congrArg (fun x => some (Value.int .i64 x)) (errs_at ⟨k, hk⟩)
theorem states_cell {w : World} {b : Nat} (h : rowAt w b states10) (k : Nat) (hk : k < 10) : w.cell? ⟨b, k, none⟩ = some (.int .i64 (k : Int)) := by
  rw [h k hk]; exact congrArg (fun x => some (Value.int .i64 x)) (states_at ⟨k, hk⟩)
def limits18 : List Int := [1400, 4000, 28, 1420, 8, 30, 64, 1000, 1000, 8, 65535, 2, 64, 65535, 2048, 2048, 8, 20]
def more14 : List Int := [49152, 64, 32, 8, 16, 16, 16, 3, 60, 4, 40, 400, 60, 200]

/-- A block of such numbers. -/
def blockOf (zs : List Int) : Obj := .cells ((zs.map (Value.int .i64)).toArray) 3
theorem rowAt_block (w : World) (n : Nat) (zs : List Int) (hn : w.heap.size = n) : rowAt (w.alloc (blockOf zs)) n zs := by
  subst hn; exact rowAt_new w zs 3 _ rfl
theorem rowAt_more {w : World} {b : Nat} {zs : List Int} (h : rowAt w b zs) (o : Obj) (hb : b < w.heap.size) : rowAt (w.alloc o) b zs :=
  rowAt_below h hb ((Below.refl _ _).alloc (Nat.le_refl _) o)
theorem rows4 (w : World) (n : Nat) (hn : w.heap.size = n) (L M : List Int) :
    (rowAt (((w.alloc (blockOf L)).alloc (blockOf M)).alloc (blockOf L)) n L ∧ rowAt (((w.alloc (blockOf L)).alloc (blockOf M)).alloc (blockOf L)) (n + 2) L) ∧
    (rowAt ((((w.alloc (blockOf L)).alloc (blockOf M)).alloc (blockOf L)).alloc (blockOf M)) (n + 1) M ∧ rowAt ((((w.alloc (blockOf L)).alloc (blockOf M)).alloc (blockOf L)).alloc (blockOf M)) (n + 3) M) := by
  have z1 : (w.alloc (blockOf L)).heap.size = n + 1 := by simp [hn]
  have z2 : ((w.alloc (blockOf L)).alloc (blockOf M)).heap.size = n + 2 := by simp [hn]
  have z3 : (((w.alloc (blockOf L)).alloc (blockOf M)).alloc (blockOf L)).heap.size = n + 3 := by simp [hn]
  refine ⟨⟨?_, rowAt_block _ _ _ z2⟩, ⟨?_, rowAt_block _ _ _ z3⟩⟩
  · exact rowAt_more (rowAt_more (rowAt_block _ _ _ hn) _ (by omega)) _ (by omega)
  · exact rowAt_more (rowAt_more (rowAt_block _ _ _ z1) _ (by omega)) _ (by omega)
theorem below4 (w w0 : World) (B : Nat) (h : Below B w0 w) (hB : B ≤ w.heap.size) (L M : List Int) : Below B w0 ((((w.alloc (blockOf L)).alloc (blockOf M)).alloc (blockOf L)).alloc (blockOf M)) :=
  (((h.alloc hB _).alloc (by simp; omega) _).alloc (by simp; omega) _).alloc (by simp; omega) _
end Go.Proofs.Ytdigdmljhfljoaa
