/-
  Answers behind the same time again and again; the walk of RtoSteady.
-/
import Derived.Test.YthjbhnncobhfoaaRb
namespace Go.Proofs.Ythjbhnncobhfoaa
open Go.RowKit
set_option linter.unusedVariables false
set_option linter.unusedSimpArgs false

/-- How far the mean may lie below and above, and how high the spread may be, behind k answers. -/
def it : Nat → Nat × Nat × Nat
  | 0 => (480, 784, 399)
  | k + 1 => ((it k).1 - ((it k).1 + 7) / 8, (it k).2.1 - (it k).2.1 / 8, (it k).2.2 + max ((it k).2.1 / 8) (((it k).1 + 7) / 8) - (it k).2.2 / 4)
def itEnd : Bool := (it 199).1 == 0 && decide ((it 199).2.1 ≤ 7) && decide ((it 199).2.2 ≤ 3)
theorem it_end : itEnd = true := by kernel_rfl
/-- A timer of answers from 0 to 99. -/
def Sml (t : Tm) : Prop := t.known = true → 0 ≤ t.mean ∧ t.mean ≤ 792 ∧ 0 ≤ t.spread ∧ t.spread ≤ 399
theorem Sml.next {t : Tm} (h : Sml t) {x : Int} (h0 : 0 ≤ x) (h1 : x ≤ 99) : Sml (smp t x) := by
  intro _
  cases hk : t.known with
  | false =>
    rw [smp_first hk]
    dsimp only
    omega
  | true =>
    obtain ⟨a, b, c, d⟩ := h hk
    rw [smp_next hk]
    unfold shf
    dsimp only
    omega
/-- Within. -/
structure Wi (r : Int) (b : Nat × Nat × Nat) (t : Tm) : Prop where
  known : t.known = true
  dbl : t.dbl = 0
  lo : 8 * r - (b.1 : Int) ≤ t.mean
  hi : t.mean ≤ 8 * r + (b.2.1 : Int)
  s0 : 0 ≤ t.spread
  s1 : t.spread ≤ (b.2.2 : Int)
theorem Sml.wi {t : Tm} (h : Sml t) {r : Int} (h0 : 1 ≤ r) (h1 : r ≤ 60) : Wi r (it 0) (smp t r) := by
  cases hk : t.known with
  | false =>
    rw [smp_first hk]
    exact ⟨rfl, rfl, by show _ ≤ 8 * r; simp [it]; omega, by show 8 * r ≤ _; simp [it]; omega, by show 0 ≤ 2 * r; omega, by show 2 * r ≤ _; simp [it]; omega⟩
  | true =>
    obtain ⟨a, b, c, d⟩ := h hk
    rw [smp_next hk]
    unfold shf
    refine ⟨hk, rfl, ?_, ?_, ?_, ?_⟩ <;> dsimp only [it] <;> omega
theorem Wi.next {r : Int} {k : Nat} {t : Tm} (h : Wi r (it k) t) : Wi r (it (k + 1)) (smp t r) := by
  obtain ⟨hk, _, a, b, c, d⟩ := h
  rw [smp_next hk]
  unfold shf
  have e1 : (it (k + 1)).1 = (it k).1 - ((it k).1 + 7) / 8 := rfl
  have e2 : (it (k + 1)).2.1 = (it k).2.1 - (it k).2.1 / 8 := rfl
  have e3 : (it (k + 1)).2.2 = (it k).2.2 + max ((it k).2.1 / 8) (((it k).1 + 7) / 8) - (it k).2.2 / 4 := rfl
  generalize it (k + 1) = y at *
  generalize it k = x at *
  obtain ⟨p, q, s⟩ := x
  obtain ⟨p', q', s'⟩ := y
  obtain ⟨_, m, z, _⟩ := t
  dsimp only at *
  subst e1 e2 e3
  refine ⟨hk, rfl, ?_, ?_, ?_, ?_⟩ <;> dsimp only <;> omega
theorem Wi.end {r : Int} {t : Tm} (h : Wi r (it 199) t) (h0 : 1 ≤ r) (h1 : r ≤ 60) : r + 1 ≤ val t ∧ val t ≤ r + 3 := by
  obtain ⟨hk, hd, a, b, c, d⟩ := h
  have e := it_end
  unfold itEnd at e
  simp only [Bool.and_eq_true, beq_iff_eq, decide_eq_true_eq] at e
  generalize it 199 = x at *
  unfold val base
  rw [if_pos hk, hd, show p2 0 = 1 from rfl]
  omega
/-- .. behind k answers. -/
def Inv (r : Int) (k : Nat) (t : Tm) : Prop := (k = 0 → Sml t) ∧ ∀ j, k = j + 1 → Wi r (it j) t
theorem Inv.next {r : Int} {k : Nat} {t : Tm} (h : Inv r k t) (h0 : 1 ≤ r) (h1 : r ≤ 60) : Inv r (k + 1) (smp t r) := by
  refine ⟨fun e => by omega, fun j e => ?_⟩
  obtain rfl : j = k := by omega
  cases j with
  | zero => exact (h.1 rfl).wi h0 h1
  | succ j => exact (h.2 j rfl).next
end Go.Proofs.Ythjbhnncobhfoaa
