/-
  The timer as a plain record, and in memory; what goes on in it.
-/
import Derived.Test.YthjbhnncobhfoaaRows
import Derived.WalkKit
import Derived.ProofKit
import Derived.Deep.RegionHeld3
import Derived.Deep.RegionWith
import Derived.Laws.NewBlocks
import Derived.BigCall
import Derived.BigGuard
import Derived.BigRegion
import Derived.Lib.Hide
import Derived.Lib.Walk
import Derived.Below
import Derived.Deep.WholeRow
import Derived.Lib.SmallJoins
namespace Go.Proofs.Ythjbhnncobhfoaa
open Go.RowKit
set_option linter.unusedVariables false
set_option linter.unusedSimpArgs false

theorem ret_int {k : IntKind} {a b : Int} (h : a = b) : Ending.returned (.int k a) = .returned (.int k b) := by rw [h]
theorem val_int {k : IntKind} {a b : Int} (h : a = b) : Value.int k a = .int k b := by rw [h]
theorem lt_of_heap {W : World} {k : Nat} {o : Obj} (h : W.heap[k]? = some o) : k < W.heap.size := (Array.getElem?_eq_some_iff.1 h).1
theorem ret_bool {a b : Bool} (h : a = b) : Ending.returned (.bool a) = .returned (.bool b) := by rw [h]

/-- All blocks that were there are as they were, but for those of the list. -/
structure Kp (bs : List Nat) (w w' : World) : Prop where
  os : w'.os = w.os
  tape : w'.tape = w.tape
  output : w'.output = w.output
  size : w.heap.size ≤ w'.heap.size
  block : ∀ k, k < w.heap.size → k ∉ bs → w'.heap[k]? = w.heap[k]?
theorem Kp.ofBelow {bs : List Nat} {w w' : World} (h : Below w.heap.size w w') : Kp bs w w' := ⟨h.os, h.tape, h.output, h.size, fun k hk _ => h.block k hk⟩
theorem Kp.refl (bs : List Nat) (w : World) : Kp bs w w := .ofBelow (Below.refl _ _)
theorem Kp.trans {bs cs : List Nat} {w w1 w2 : World} (h : Kp bs w w1) (k : Kp cs w1 w2) (hc : ∀ x ∈ cs, x ∈ bs ∨ w.heap.size ≤ x) : Kp bs w w2 :=
  ⟨k.os.trans h.os, k.tape.trans h.tape, k.output.trans h.output, Nat.le_trans h.size k.size, fun x hx hn =>
    (k.block x (Nat.lt_of_lt_of_le hx h.size) fun hm => (hc x hm).elim hn fun hle => by omega).trans (h.block x hx hn)⟩
theorem Kp.mono {bs cs : List Nat} {w w' : World} (h : Kp bs w w') (hs : ∀ x ∈ bs, x ∈ cs) : Kp cs w w' := ⟨h.os, h.tape, h.output, h.size, fun k hk hn => h.block k hk fun hm => hn (hs k hm)⟩
theorem Kp.setCell {bs : List Nat} {w w' : World} (h : Kp bs w w') {p : Addr} (hp : p.block ∈ bs ∨ w.heap.size ≤ p.block) (u : Value) : Kp bs w (w'.setCell p u) :=
  ⟨h.os, h.tape, h.output, by simpa using h.size, fun k hk hn => (Below.heap_setCell _ _ _ _ (fun e => by rcases hp with hp | hp; exact hn (e ▸ hp); omega)).trans (h.block k hk hn)⟩
theorem Kp.drew {bs : List Nat} {w w' : World} (h : Kp bs w w') : Kp bs w w'.drew := ⟨h.os, h.tape, h.output, h.size, h.block⟩
theorem Kp.below {bs : List Nat} {w w' : World} (h : Kp bs w w') {B : Nat} (hB : B ≤ w.heap.size) (hb : ∀ k ∈ bs, B ≤ k) : Below B w w' :=
  ⟨h.os, h.tape, h.output, h.size, fun k hk => h.block k (by omega) fun hm => by have := hb k hm; omega⟩
theorem Kp.then {bs : List Nat} {w w1 w2 : World} (h : Kp bs w w1) (hb : Below w1.heap.size w1 w2) : Kp bs w w2 := h.trans (cs := []) (Kp.ofBelow hb) (by simp)

/-- A timer. -/
structure Tm where
  known : Bool
  mean : Int
  spread : Int
  dbl : Int
/-- What always holds of one. -/
structure TOk (t : Tm) : Prop where
  m0 : 0 ≤ t.mean
  m1 : t.mean ≤ 8796093022208
  s0 : 0 ≤ t.spread
  s1 : t.spread ≤ 4398046511104
  d0 : 0 ≤ t.dbl
  d1 : t.dbl ≤ 6
def tm0 : Tm := ⟨false, 0, 0, 0⟩
theorem tm0_ok : TOk tm0 := ⟨by decide, by decide, by decide, by decide, by decide, by decide⟩
/-- How long, ahead of what was doubled. -/
def base (t : Tm) : Int := if t.known then t.mean / 8 + max 1 t.spread else 3
def p2 (d : Int) : Int := 2 ^ d.toNat
def val (t : Tm) : Int := min (max (base t * p2 t.dbl) 2) 64
def late (t : Tm) : Tm := { t with dbl := min (t.dbl + 1) 6 }
/-- An answer behind r ticks. -/
def smp (t : Tm) (r : Int) : Tm :=
  if t.known then ⟨true, t.mean + (r - t.mean / 8), t.spread + (max (r - t.mean / 8) (-(r - t.mean / 8)) - t.spread / 4), 0⟩ else ⟨true, 8 * r, 2 * r, 0⟩
theorem TOk.late {t : Tm} (h : TOk t) : TOk (late t) := ⟨h.m0, h.m1, h.s0, h.s1, by have := h.d0; show 0 ≤ min (t.dbl + 1) 6; omega, by show min (t.dbl + 1) 6 ≤ 6; omega⟩
theorem TOk.smp {t : Tm} (h : TOk t) {r : Int} (h0 : 0 ≤ r) (h1 : r ≤ 1099511627776) : TOk (smp t r) := by
  obtain ⟨a, b, c, d, _, _⟩ := h
  unfold Ythjbhnncobhfoaa.smp
  split
  · refine ⟨?_, ?_, ?_, ?_, Int.le_refl 0, (by omega : (0 : Int) ≤ 6)⟩ <;> dsimp only <;> omega
  · refine ⟨?_, ?_, ?_, ?_, Int.le_refl 0, (by omega : (0 : Int) ≤ 6)⟩ <;> dsimp only <;> omega
theorem base_lo {t : Tm} (h : TOk t) : 1 ≤ base t ∧ base t ≤ 5497558138880 := by
  obtain ⟨a, b, c, d, _, _⟩ := h
  unfold base
  split <;> omega
theorem val_lo (t : Tm) : 2 ≤ val t ∧ val t ≤ 64 := by unfold val; omega
theorem d_cases {d : Int} (h0 : 0 ≤ d) (h1 : d ≤ 6) : d = 0 ∨ d = 1 ∨ d = 2 ∨ d = 3 ∨ d = 4 ∨ d = 5 ∨ d = 6 := by omega
/-- To be late never shortens it, and at most doubles it. -/
theorem val_late {t : Tm} (h : TOk t) : val t ≤ val (late t) ∧ val (late t) ≤ 2 * val t := by
  obtain ⟨b0, b1⟩ := base_lo h
  have e : base (late t) = base t := rfl
  unfold val
  rw [e]
  generalize base t = p at *
  have e2 : (late t).dbl = min (t.dbl + 1) 6 := rfl
  rw [e2]
  rcases d_cases h.d0 h.d1 with q | q | q | q | q | q | q
  · rw [q, show min ((0 : Int) + 1) 6 = 1 from by omega, show p2 0 = 1 from rfl, show p2 1 = 2 from rfl]; omega
  · rw [q, show min ((1 : Int) + 1) 6 = 2 from by omega, show p2 1 = 2 from rfl, show p2 2 = 4 from rfl]; omega
  · rw [q, show min ((2 : Int) + 1) 6 = 3 from by omega, show p2 2 = 4 from rfl, show p2 3 = 8 from rfl]; omega
  · rw [q, show min ((3 : Int) + 1) 6 = 4 from by omega, show p2 3 = 8 from rfl, show p2 4 = 16 from rfl]; omega
  · rw [q, show min ((4 : Int) + 1) 6 = 5 from by omega, show p2 4 = 16 from rfl, show p2 5 = 32 from rfl]; omega
  · rw [q, show min ((5 : Int) + 1) 6 = 6 from by omega, show p2 5 = 32 from rfl, show p2 6 = 64 from rfl]; omega
  · rw [q, show min ((6 : Int) + 1) 6 = 6 from by omega, show p2 6 = 64 from rfl]; omega

/-- A block that holds a timer. -/
def TB (b : Nat) (t : Tm) (W : World) : Prop := W.heap[b]? = some (.cells #[.bool t.known, .int .i64 t.mean, .int .i64 t.spread, .int .i64 t.dbl] 50 (0, 0))
/-- A block that holds the document's timer. -/
def RB (b : Nat) (t : Tm) (W : World) : Prop := W.heap[b]? = some (.cells #[.int .i64 (if t.known then t.mean else -1), .int .i64 t.spread, .int .i64 t.dbl] 52 (0, 0))
section
variable {b : Nat} {t : Tm} {W W' : World}
theorem TB.lt (h : TB b t W) : b < W.heap.size := lt_of_heap h
theorem RB.lt (h : RB b t W) : b < W.heap.size := lt_of_heap h
theorem TB.keep (h : TB b t W) (hb : Below W.heap.size W W') : TB b t W' := (hb.block _ h.lt).trans h
theorem RB.keep (h : RB b t W) (hb : Below W.heap.size W W') : RB b t W' := (hb.block _ h.lt).trans h
theorem TB.kp {bs : List Nat} (h : TB b t W) (hk : Kp bs W W') (hn : b ∉ bs) : TB b t W' := (hk.block b h.lt hn).trans h
theorem RB.kp {bs : List Nat} (h : RB b t W) (hk : Kp bs W W') (hn : b ∉ bs) : RB b t W' := (hk.block b h.lt hn).trans h
theorem TB.drew (h : TB b t W) : TB b t W.drew := h
theorem RB.drew (h : RB b t W) : RB b t W.drew := h
theorem TB.c0 (h : TB b t W) : W.cell? ⟨b, 0, none⟩ = some (.bool t.known) := Joins.cell_of_block h 0
theorem TB.c1 (h : TB b t W) : W.cell? ⟨b, 1, none⟩ = some (.int .i64 t.mean) := Joins.cell_of_block h 1
theorem TB.c2 (h : TB b t W) : W.cell? ⟨b, 2, none⟩ = some (.int .i64 t.spread) := Joins.cell_of_block h 2
theorem TB.c3 (h : TB b t W) : W.cell? ⟨b, 3, none⟩ = some (.int .i64 t.dbl) := Joins.cell_of_block h 3
theorem RB.c0 (h : RB b t W) : W.cell? ⟨b, 0, none⟩ = some (.int .i64 (if t.known then t.mean else -1)) := Joins.cell_of_block h 0
theorem RB.c1 (h : RB b t W) : W.cell? ⟨b, 1, none⟩ = some (.int .i64 t.spread) := Joins.cell_of_block h 1
theorem RB.c2 (h : RB b t W) : W.cell? ⟨b, 2, none⟩ = some (.int .i64 t.dbl) := Joins.cell_of_block h 2
theorem TB.s0 (h : TB b t W) (x : Bool) : TB b { t with known := x } (W.setCell ⟨b, 0, none⟩ (.bool x)) := Joins.block_setCell h _
theorem TB.s1 (h : TB b t W) (x : Int) : TB b { t with mean := x } (W.setCell ⟨b, 1, none⟩ (.int .i64 x)) := Joins.block_setCell h _
theorem TB.s2 (h : TB b t W) (x : Int) : TB b { t with spread := x } (W.setCell ⟨b, 2, none⟩ (.int .i64 x)) := Joins.block_setCell h _
theorem TB.s3 (h : TB b t W) (x : Int) : TB b { t with dbl := x } (W.setCell ⟨b, 3, none⟩ (.int .i64 x)) := Joins.block_setCell h _
theorem TB.free (h : TB b t W) (i : Nat) : W.frozen? ⟨b, i, none⟩ = false := Joins.unfrozen_of_block h i
theorem RB.free (h : RB b t W) (i : Nat) : W.frozen? ⟨b, i, none⟩ = false := Joins.unfrozen_of_block h i
end
end Go.Proofs.Ythjbhnncobhfoaa
