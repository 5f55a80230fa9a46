/-
  The program's table and the document's, side by side, with the same entries: what a call of each makes of them.
-/
import Derived.Test.YtchmfbfijglokaaRefT
namespace Go.Proofs.Ytchmfbfijglokaa
open Go.RowKit
set_option linter.unusedVariables false

/-- Both tables lie in W, apart, with these entries; nothing of w has turned. -/
structure Two (w W : World) (tb rb : Nat) (bs : List Nat) (o : Option Addr) (g cap : Nat) (L : List Ent) : Prop where
  t : Tbl W tb bs L
  u : RT W rb o g cap L
  nr : rb ∉ bs
  ng : g ∉ bs
  gl : g < W.heap.size
  be : Below w.heap.size w W
  lo : ∀ j ∈ bs, w.heap.size ≤ j
  lr : w.heap.size ≤ rb
theorem Two.on {w W W' : World} {tb rb g cap : Nat} {bs : List Nat} {o : Option Addr} {L : List Ent} (h : Two w W tb rb bs o g cap L) (hb : Below W.heap.size W W') : Two w W' tb rb bs o g cap L :=
  ⟨h.t.on hb, h.u.on hb, h.nr, h.ng, Nat.lt_of_lt_of_le h.gl hb.size, h.be.trans (hb.mono h.be.size), h.lo, h.lr⟩
/-- The document's table behind a call of the program's. -/
theorem Two.mid {w W W' : World} {tb rb g cap : Nat} {bs : List Nat} {o : Option Addr} {L : List Ent} (h : Two w W tb rb bs o g cap L) (hk : Kp bs W W') : RT W' rb o g cap L :=
  h.u.keep hk.size fun k hh hlt => hk.block k hlt (by rcases hh with rfl | ⟨hp, rfl⟩; exact h.nr; exact h.ng)
theorem RT.any {W : World} {rb g cap : Nat} {o : Option Addr} {L : List Ent} (h : RT W rb o g cap L) (h0 : L.length = 0) (g' : Nat) : RT W rb o g' cap L :=
  ⟨h.var, fun hp => by omega, fun hp => by omega, h.le, h.nc⟩
/-- Both behind a call of each. -/
theorem Two.both {w W W1 W2 : World} {tb rb g cap g' cap' : Nat} {bs bs1 : List Nat} {o o' : Option Addr} {L L' : List Ent} (h : Two w W tb rb bs o g cap L)
    (hk : Kp bs W W1) (ht : Tbl W1 tb bs1 L') (hs : ∀ k ∈ bs1, k ∈ bs ∨ W.heap.size ≤ k) (hu : RT W2 rb o' g' cap' L') (hg : g' = g ∨ W1.heap.size ≤ g') (hk2 : Kp [rb] W1 W2) : ∃ g'', Two w W2 tb rb bs1 o' g'' cap' L' := by
  have hr : rb ∉ bs1 := fun hm => by
    rcases hs rb hm with h1 | h1
    · exact h.nr h1
    · have := h.u.lt; omega
  have hT : Tbl W2 tb bs1 L' := ht.kp hk2 (fun k hm hh => by simp at hh; subst hh; exact hr hm)
  have hB : Below w.heap.size w W2 := by
    have h1 := h.be.trans (hk.below h.be.size h.lo)
    exact h1.trans (hk2.below h1.size (by simp; exact h.lr))
  have hL : ∀ j ∈ bs1, w.heap.size ≤ j := fun j hj => by
    rcases hs j hj with h1 | h1
    · exact h.lo j h1
    · have := h.be.size; omega
  rcases Nat.eq_zero_or_pos L'.length with h0 | h0
  · exact ⟨rb, hT, hu.any h0 rb, hr, hr, hu.lt, hB, hL, h.lr⟩
  · refine ⟨g', hT, hu, hr, fun hm => ?_, (hu.row h0).2.1, hB, hL, h.lr⟩
    rcases hg with rfl | h1
    · rcases hs g' hm with h2 | h2
      · exact h.ng h2
      · have := h.gl; omega
    · have := ht.lt g' hm; omega
end Go.Proofs.Ytchmfbfijglokaa
