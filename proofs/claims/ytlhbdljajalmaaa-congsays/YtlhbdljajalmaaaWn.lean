/-
  The window as a plain record, and in memory; what goes on in it.
-/
import Derived.Test.YtlhbdljajalmaaaRows
import Derived.WalkKit
import Derived.ProofKit
import Derived.Deep.RegionHeld3
import Derived.Deep.RegionWith
import Derived.Laws.NewBlocks
import Derived.BigCall
import Derived.BigGuard
import Derived.BigRegion
import Derived.Lib.Hide
import Derived.Lib.Walk
import Derived.Below
import Derived.Deep.WholeRow
import Derived.Lib.SmallJoins
namespace Go.Proofs.Ytlhbdljajalmaaa
open Go.RowKit
set_option linter.unusedVariables false
set_option linter.unusedSimpArgs false

theorem ret_int {k : IntKind} {a b : Int} (h : a = b) : Ending.returned (.int k a) = .returned (.int k b) := by rw [h]
theorem val_int {k : IntKind} {a b : Int} (h : a = b) : Value.int k a = .int k b := by rw [h]
theorem lt_of_heap {W : World} {k : Nat} {o : Obj} (h : W.heap[k]? = some o) : k < W.heap.size := (Array.getElem?_eq_some_iff.1 h).1
theorem ret_bool {a b : Bool} (h : a = b) : Ending.returned (.bool a) = .returned (.bool b) := by rw [h]

/-- All blocks that were there are as they were, but for those of the list. -/
structure Kp (bs : List Nat) (w w' : World) : Prop where
  os : w'.os = w.os
  tape : w'.tape = w.tape
  output : w'.output = w.output
  size : w.heap.size ≤ w'.heap.size
  block : ∀ k, k < w.heap.size → k ∉ bs → w'.heap[k]? = w.heap[k]?
theorem Kp.ofBelow {bs : List Nat} {w w' : World} (h : Below w.heap.size w w') : Kp bs w w' := ⟨h.os, h.tape, h.output, h.size, fun k hk _ => h.block k hk⟩
theorem Kp.refl (bs : List Nat) (w : World) : Kp bs w w := .ofBelow (Below.refl _ _)
theorem Kp.trans {bs cs : List Nat} {w w1 w2 : World} (h : Kp bs w w1) (k : Kp cs w1 w2) (hc : ∀ x ∈ cs, x ∈ bs ∨ w.heap.size ≤ x) : Kp bs w w2 :=
  ⟨k.os.trans h.os, k.tape.trans h.tape, k.output.trans h.output, Nat.le_trans h.size k.size, fun x hx hn =>
    (k.block x (Nat.lt_of_lt_of_le hx h.size) fun hm => (hc x hm).elim hn fun hle => by omega).trans (h.block x hx hn)⟩
theorem Kp.mono {bs cs : List Nat} {w w' : World} (h : Kp bs w w') (hs : ∀ x ∈ bs, x ∈ cs) : Kp cs w w' := ⟨h.os, h.tape, h.output, h.size, fun k hk hn => h.block k hk fun hm => hn (hs k hm)⟩
theorem Kp.setCell {bs : List Nat} {w w' : World} (h : Kp bs w w') {p : Addr} (hp : p.block ∈ bs ∨ w.heap.size ≤ p.block) (u : Value) : Kp bs w (w'.setCell p u) :=
  ⟨h.os, h.tape, h.output, by simpa using h.size, fun k hk hn => (Below.heap_setCell _ _ _ _ (fun e => by rcases hp with hp | hp; exact hn (e ▸ hp); omega)).trans (h.block k hk hn)⟩
theorem Kp.drew {bs : List Nat} {w w' : World} (h : Kp bs w w') : Kp bs w w'.drew := ⟨h.os, h.tape, h.output, h.size, h.block⟩
theorem Kp.below {bs : List Nat} {w w' : World} (h : Kp bs w w') {B : Nat} (hB : B ≤ w.heap.size) (hb : ∀ k ∈ bs, B ≤ k) : Below B w w' :=
  ⟨h.os, h.tape, h.output, h.size, fun k hk => h.block k (by omega) fun hm => by have := hb k hm; omega⟩
theorem Kp.then {bs : List Nat} {w w1 w2 : World} (h : Kp bs w w1) (hb : Below w1.heap.size w1 w2) : Kp bs w w2 := h.trans (cs := []) (Kp.ofBelow hb) (by simp)

/-- A window. -/
structure Wn where
  mss : Int
  size : Int
  slow : Int
/-- What always holds of one. -/
structure WOk (t : Wn) : Prop where
  m0 : 8 ≤ t.mss
  m1 : t.mss ≤ 1000
  s0 : t.mss ≤ t.size
  s1 : t.size ≤ 65535
  l0 : 2 * t.mss ≤ t.slow
  l1 : t.slow ≤ 65535
def wn0 (m : Int) : Wn := ⟨m, 2 * m, 65535⟩
theorem wn0_ok {m : Int} (h0 : 8 ≤ m) (h1 : m ≤ 1000) : WOk (wn0 m) := by
  refine ⟨h0, h1, ?_, ?_, ?_, ?_⟩ <;> (show _ ≤ _) <;> (unfold wn0; dsimp only; omega)
/-- The half of what was on its way, within its bounds. -/
def hv (m f : Int) : Int := min (max (max 0 f / 2) (2 * m)) 65535
theorem hv_lo {m : Int} (h0 : 8 ≤ m) (h1 : m ≤ 1000) (f : Int) : 2 * m ≤ hv m f ∧ hv m f ≤ 65535 := by unfold hv; omega
def lost (t : Wn) (f : Int) : Wn := ⟨t.mss, hv t.mss f, hv t.mss f⟩
def sil (t : Wn) (f : Int) : Wn := ⟨t.mss, t.mss, hv t.mss f⟩
/-- By how much Size gets more. -/
def gr (t : Wn) (n : Int) : Int := if t.size < t.slow then min n t.mss else max 1 (t.mss * t.mss / t.size)
def ack (t : Wn) (n : Int) : Wn := if n < 1 then t else ⟨t.mss, min (t.size + gr t n) 65535, t.slow⟩
section
variable {t : Wn}
theorem WOk.lost (h : WOk t) (f : Int) : WOk (lost t f) := by
  obtain ⟨a, b⟩ := hv_lo h.m0 h.m1 f
  have := h.m0
  exact ⟨h.m0, h.m1, by show t.mss ≤ hv t.mss f; omega, b, a, b⟩
theorem WOk.sil (h : WOk t) (f : Int) : WOk (sil t f) := by
  obtain ⟨a, b⟩ := hv_lo h.m0 h.m1 f
  have := h.m1
  exact ⟨h.m0, h.m1, by show t.mss ≤ t.mss; omega, by show t.mss ≤ 65535; omega, a, b⟩
theorem sq_bnd {m : Int} (h0 : 8 ≤ m) (h1 : m ≤ 1000) : 64 ≤ m * m ∧ m * m ≤ 1000000 := by
  have a := Int.mul_le_mul h0 h0 (by decide) (by omega : 0 ≤ m)
  have b := Int.mul_le_mul h1 h1 (by omega : 0 ≤ m) (by decide)
  omega
theorem quo_bnd {m s : Int} (h0 : 8 ≤ m) (hs : m ≤ s) : 0 ≤ m * m / s ∧ m * m / s ≤ m := by
  refine ⟨Int.ediv_nonneg (Int.mul_nonneg (by omega) (by omega)) (by omega), ?_⟩
  exact Int.ediv_le_of_le_mul (by omega) (Int.mul_le_mul_of_nonneg_left hs (by omega))
theorem gr_bnd (h : WOk t) {n : Int} (hn : 1 ≤ n) : 1 ≤ gr t n ∧ gr t n ≤ t.mss := by
  obtain ⟨q0, q1⟩ := quo_bnd h.m0 h.s0
  have := h.m0
  unfold gr
  split <;> omega
theorem ack_none {n : Int} (hn : n < 1) : ack t n = t := by unfold ack; rw [if_pos hn]
theorem ack_some {n : Int} (hn : 1 ≤ n) : ack t n = ⟨t.mss, min (t.size + gr t n) 65535, t.slow⟩ := by unfold ack; rw [if_neg (by omega)]
theorem WOk.ack (h : WOk t) (n : Int) : WOk (ack t n) := by
  by_cases hn : n < 1
  · rw [ack_none hn]; exact h
  · rw [ack_some (by omega)]
    obtain ⟨a, b⟩ := gr_bnd h (show 1 ≤ n by omega)
    have := h.m1
    have := h.s0
    exact ⟨h.m0, h.m1, by show t.mss ≤ min (t.size + gr t n) 65535; omega, by show min (t.size + gr t n) 65535 ≤ 65535; omega, h.l0, h.l1⟩
theorem ack_mss (n : Int) : (ack t n).mss = t.mss := by unfold ack; split <;> rfl
/-- What comes never narrows it, and widens it by a segment at most. -/
theorem ack_size (h : WOk t) (n : Int) : t.size ≤ (ack t n).size ∧ (ack t n).size ≤ t.size + t.mss := by
  have := h.m0
  have := h.s1
  by_cases hn : n < 1
  · rw [ack_none hn]; omega
  · rw [ack_some (by omega)]
    obtain ⟨a, b⟩ := gr_bnd h (show 1 ≤ n by omega)
    constructor <;> (dsimp only; omega)
end

/-- A block that holds a window. -/
def TB (b : Nat) (t : Wn) (W : World) : Prop := W.heap[b]? = some (.cells #[.int .i64 t.mss, .int .i64 t.size, .int .i64 t.slow] 52 (0, 0))
/-- A block that holds the document's window. -/
def RB (b : Nat) (t : Wn) (W : World) : Prop := W.heap[b]? = some (.cells #[.int .i64 t.mss, .int .i64 t.size, .int .i64 t.slow] 49 (0, 0))
section
variable {b : Nat} {t : Wn} {W W' : World}
theorem TB.lt (h : TB b t W) : b < W.heap.size := lt_of_heap h
theorem TB.keep (h : TB b t W) (hb : Below W.heap.size W W') : TB b t W' := (hb.block _ h.lt).trans h
theorem TB.kp {bs : List Nat} (h : TB b t W) (hk : Kp bs W W') (hn : b ∉ bs) : TB b t W' := (hk.block b h.lt hn).trans h
theorem TB.drew (h : TB b t W) : TB b t W.drew := h
theorem TB.c0 (h : TB b t W) : W.cell? ⟨b, 0, none⟩ = some (.int .i64 t.mss) := Joins.cell_of_block h 0
theorem TB.c1 (h : TB b t W) : W.cell? ⟨b, 1, none⟩ = some (.int .i64 t.size) := Joins.cell_of_block h 1
theorem TB.c2 (h : TB b t W) : W.cell? ⟨b, 2, none⟩ = some (.int .i64 t.slow) := Joins.cell_of_block h 2
theorem TB.s1 (h : TB b t W) (x : Int) : TB b ⟨t.mss, x, t.slow⟩ (W.setCell ⟨b, 1, none⟩ (.int .i64 x)) := Joins.block_setCell h _
theorem TB.s2 (h : TB b t W) (x : Int) : TB b ⟨t.mss, t.size, x⟩ (W.setCell ⟨b, 2, none⟩ (.int .i64 x)) := Joins.block_setCell h _
theorem TB.free (h : TB b t W) (i : Nat) : W.frozen? ⟨b, i, none⟩ = false := Joins.unfrozen_of_block h i
theorem RB.lt (h : RB b t W) : b < W.heap.size := lt_of_heap h
theorem RB.keep (h : RB b t W) (hb : Below W.heap.size W W') : RB b t W' := (hb.block _ h.lt).trans h
theorem RB.kp {bs : List Nat} (h : RB b t W) (hk : Kp bs W W') (hn : b ∉ bs) : RB b t W' := (hk.block b h.lt hn).trans h
theorem RB.drew (h : RB b t W) : RB b t W.drew := h
theorem RB.c0 (h : RB b t W) : W.cell? ⟨b, 0, none⟩ = some (.int .i64 t.mss) := Joins.cell_of_block h 0
theorem RB.c1 (h : RB b t W) : W.cell? ⟨b, 1, none⟩ = some (.int .i64 t.size) := Joins.cell_of_block h 1
theorem RB.c2 (h : RB b t W) : W.cell? ⟨b, 2, none⟩ = some (.int .i64 t.slow) := Joins.cell_of_block h 2
theorem RB.s1 (h : RB b t W) (x : Int) : RB b ⟨t.mss, x, t.slow⟩ (W.setCell ⟨b, 1, none⟩ (.int .i64 x)) := Joins.block_setCell h _
theorem RB.s2 (h : RB b t W) (x : Int) : RB b ⟨t.mss, t.size, x⟩ (W.setCell ⟨b, 2, none⟩ (.int .i64 x)) := Joins.block_setCell h _
theorem RB.free (h : RB b t W) (i : Nat) : W.frozen? ⟨b, i, none⟩ = false := Joins.unfrozen_of_block h i
end
end Go.Proofs.Ytlhbdljajalmaaa
