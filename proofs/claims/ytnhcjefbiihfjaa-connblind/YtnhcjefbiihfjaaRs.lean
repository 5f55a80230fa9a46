/-
  What is left of a number; a row of segments as it is gone through.
-/
import Derived.Test.YtnhcjefbiihfjaaRd
namespace Go.Proofs.Ytnhcjefbiihfjaa
open Go.RowKit
open Tc (Sg gchk gv gc)
set_option linter.unusedVariables false
set_option linter.unusedSimpArgs false

/-- A connection, all new, while memory grows. -/
structure NC (w : World) (b : Nat) (c : Cn) (P : Pt) (W : World) : Prop where
  ct : CT b c P W
  be : Below w.heap.size w W
  lo : ∀ x ∈ fp b P, w.heap.size ≤ x
section
variable {w W W' : World} {b : Nat} {c c' : Cn} {P P' : Pt}
theorem NC.keep (h : NC w b c P W) (hb : Below W.heap.size W W') : NC w b c P W' := ⟨h.ct.keep hb, below_trans h.be hb, h.lo⟩
theorem NC.to (h : NC w b c P W) (h' : CT b c' P' W') (u : Up b P P' W W') : NC w b c' P' W' :=
  ⟨h', h.be.trans (u.kp.below h.be.size h.lo), fun x hx => by
    have := h.be.size
    rcases u.fr x hx with e | e
    · exact h.lo x e
    · omega⟩
end
/-- A segment that is taken out of a row, in a place of its own. -/
def segAt (W : World) (q : Sg) : World := (W.alloc (.cells gzc 35)).setCells W.heap.size 0 (gcl q)
theorem seg0 (W : World) : Tc.GB W.heap.size gz0 (W.alloc (.cells gzc 35)) := Tc.GB.new W gz0
theorem segAt_gb (W : World) (q : Sg) : Tc.GB W.heap.size q (segAt W q) := GB.put (seg0 W) q
theorem segAt_be (W : World) (q : Sg) : Below W.heap.size W (segAt W q) := Oq.below_setCells ((Below.refl _ _).alloc (Nat.le_refl _) _) (Nat.le_refl _) _ _
/-- Two connections, all new, apart from one another. -/
structure N2 (w : World) (b : Nat) (c : Cn) (P : Pt) (d : Nat) (e : Cn) (Q : Pt) (W : World) : Prop where
  ca : CT b c P W
  cb : CT d e Q W
  be : Below w.heap.size w W
  la : ∀ x ∈ fp b P, w.heap.size ≤ x
  lb : ∀ x ∈ fp d Q, w.heap.size ≤ x
  dj : ∀ x ∈ fp b P, x ∉ fp d Q
section
variable {w W W' : World} {b d : Nat} {c c' e e' : Cn} {P P' Q Q' : Pt}
theorem N2.new (h : NC w b c P W) (hb : CT d e Q W') (u : Below W.heap.size W W') (hl : ∀ x ∈ fp d Q, W.heap.size ≤ x) : N2 w b c P d e Q W' :=
  ⟨h.ct.keep u, hb, below_trans h.be u, h.lo, fun x hx => Nat.le_trans h.be.size (hl x hx), fun x hx hm => by
    have h1 := h.ct.fp_lt x hx
    have h2 := hl x hm
    omega⟩
theorem N2.keep (h : N2 w b c P d e Q W) (u : Below W.heap.size W W') : N2 w b c P d e Q W' := ⟨h.ca.keep u, h.cb.keep u, below_trans h.be u, h.la, h.lb, h.dj⟩
theorem N2.swap (h : N2 w b c P d e Q W) : N2 w d e Q b c P W := ⟨h.cb, h.ca, h.be, h.lb, h.la, fun x hx hm => h.dj x hm hx⟩
theorem N2.left (h : N2 w b c P d e Q W) (h' : CT b c' P' W') (u : Up b P P' W W') : N2 w b c' P' d e Q W' := by
  have hs := h.be.size
  refine ⟨h', h.cb.kp u.kp fun x hx hm => h.dj x hm hx, h.be.trans (u.kp.below hs h.la), fun x hx => ?_, h.lb, fun x hx hm => ?_⟩
  · rcases u.fr x hx with e | e
    · exact h.la x e
    · omega
  · rcases u.fr x hx with e | e
    · exact h.dj x e hm
    · have := h.cb.fp_lt x hm; omega
theorem N2.right (h : N2 w b c P d e Q W) (h' : CT d e' Q' W') (u : Up d Q Q' W W') : N2 w b c P d e' Q' W' := (h.swap.left h' u).swap
end
/-- One after the other comes. -/
def ins (c : Cn) (l : List Sg) : Cn := l.foldl Cn.inC c
theorem ins_add (c : Cn) (l : List Sg) (g : Sg) : ins c (l ++ [g]) = (ins c l).inC g := by unfold ins; simp
theorem ins_ok {k : Nat} {c : Cn} (h : COk k c) (l : List Sg) (hs : ∀ g ∈ l, SOk g) : COk (k + 2 * l.length) (ins c l) := by
  induction l generalizing k c with
  | nil => exact h
  | cons g r ih =>
    have h1 := h.inC (hs g (List.mem_cons_self ..))
    have h2 := ih h1 (fun x hx => hs x (List.mem_cons_of_mem _ hx))
    have e : k + 2 + 2 * r.length = k + 2 * (g :: r).length := by simp; omega
    rw [e] at h2
    exact h2
end Go.Proofs.Ytnhcjefbiihfjaa
