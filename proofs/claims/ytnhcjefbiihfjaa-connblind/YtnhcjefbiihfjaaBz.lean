/-
  A pair, and a segment that lies beside it.
-/
import Derived.Test.YtnhcjefbiihfjaaBv
namespace Go.Proofs.Ytnhcjefbiihfjaa
open Go.RowKit
open Tc (Sg gchk gv gc)
set_option linter.unusedVariables false
set_option linter.unusedSimpArgs false
structure BZ (w : World) (L : Pl) (p : Pr) (c e : Cn) (s : Nat) (g : Sg) (W : World) : Prop where
  pm : PM w L p c e W
  gb : Tc.GB s g W
  na : ∀ k, L.a.ownBlock = some k → k ≠ s
  ls : w.heap.size ≤ s
def sPx (x : Nat) (W : World) : Prop :=
  W.cell? ⟨x, 2, none⟩ = some (.int .u32 1) ∧ W.cell? ⟨x, 3, none⟩ = some (.int .i64 40000) ∧ W.cell? ⟨x, 4, none⟩ = some (.int .u32 2) ∧ W.cell? ⟨x, 5, none⟩ = some (.int .i64 80)
section
variable {w W W' : World} {L : Pl} {p : Pr} {c c' e e' : Cn} {P' Q' : Pt} {s : Nat} {g : Sg}
theorem PM.drew' (h : PM w L p c e W) : PM w L p c e W.drew := h.keep (Below.refl _ _).drew
theorem PM.sp (h : PM w L p c e W) : sPx L.x W := ⟨h.cell 2, h.cell 3, h.cell 4, h.cell 5⟩
theorem BZ.new (h : PM w L p c e W) : BZ w L p c e W.heap.size gz0 (W.alloc (.cells gzc 35)) :=
  ⟨h.keep ((Below.refl _ _).alloc (Nat.le_refl _) _), seg0 W, fun k hk => by have := (h.row.lt k hk).2; omega, h.be.size⟩
theorem BZ.keep (h : BZ w L p c e s g W) (u : Below W.heap.size W W') : BZ w L p c e s g W' := ⟨h.pm.keep u, Tc.GB.keep h.gb u, h.na, h.ls⟩
theorem BZ.drew (h : BZ w L p c e s g W) : BZ w L p c e s g W.drew := h.keep (Below.refl _ _).drew
theorem BZ.left (h : BZ w L p c e s g W) (h' : CT L.b c' P' W') (u : Up L.b L.P P' W W') : BZ w { L with P := P' } p c' e s g W' := ⟨h.pm.left h' u, GB.kp h.gb u.kp (h.pm.two.ca.no_seg h.gb), h.na, h.ls⟩
theorem BZ.right (h : BZ w L p c e s g W) (h' : CT L.d e' Q' W') (u : Up L.d L.Q Q' W W') : BZ w { L with Q := Q' } p c e' s g W' := ⟨h.pm.right h' u, GB.kp h.gb u.kp (h.pm.two.cb.no_seg h.gb), h.na, h.ls⟩
theorem BZ.put (h : BZ w L p c e s g W) (q : Sg) : BZ w L p c e s q (W.setCells s 0 (gcl q)) := by
  have hk : Kp [s] W (W.setCells s 0 (gcl q)) := kp_setCells (gcl q) 0 W (Kp.refl _ _)
  refine ⟨⟨(hk.block _ h.pm.lt fun hm => ?_).trans h.pm.blk, h.pm.row.kp hk fun k hk' hm => h.na k hk' (by simpa using hm), ⟨h.pm.two.ca.kp hk fun x hx hm => ?_, h.pm.two.cb.kp hk fun x hx hm => ?_, h.pm.be.trans (Kp.below hk h.pm.be.size (by simpa using h.ls)), h.pm.two.la, h.pm.two.lb, h.pm.two.dj⟩, h.pm.lo⟩, GB.put h.gb q, h.na, h.ls⟩
  · exact ne_type h.pm.blk h.gb (by decide) (by simpa using hm)
  · obtain rfl : x = s := by simpa using hm
    exact h.pm.two.ca.no_seg h.gb hx
  · obtain rfl : x = s := by simpa using hm
    exact h.pm.two.cb.no_seg h.gb hx
theorem BZ.setAir (h : BZ w L p c e s g W) {a' : Value} {l : List Sg} (hr : ORow W w.heap.size a' l) (hn : ∀ k, a'.ownBlock = some k → k ≠ s) : BZ w { L with a := a' } { p with air := l } c e s g (W.setCell ⟨L.x, 6, none⟩ a') :=
  ⟨h.pm.setAir hr, GB.kp h.gb (bs := [L.x]) ((Kp.refl _ _).setCell (Or.inl (by simp)) _) (fun hm => ne_type h.gb h.pm.blk (by decide) (by simpa using hm)), hn, h.ls⟩
/-- One segment is in the air. -/
theorem one_form {B : Nat} {v : Value} {q : Sg} (h : ORow W B v [q]) : ∃ g off cap, v = .slice (some ⟨g, off, none⟩) 1 cap ∧ 1 ≤ cap ∧ W.rangeAt g off (gcl q) ∧ ORow W B (.slice (some ⟨g, off + 13, none⟩) 0 (cap - 1)) [] ∧ ORow W B (.slice (some ⟨g, off, none⟩) 0 0) [] := by
  rcases id h with ⟨_, h0⟩ | ⟨g, off, cap, rfl, hB, cur, hc, hn, _, hz, _⟩
  · cases h0
  · refine ⟨g, off, cap, rfl, hn, ?_, h.tail (L := []), .inr ⟨g, off, 0, rfl, hB, cur, hc, Nat.le_refl _, Nat.zero_le _, by omega, fun j u hu => absurd hu (by simp [scells])⟩⟩
    have := h.range (i := 0) (q := q) rfl
    simpa using this
theorem nil_form {B : Nat} {v : Value} (h : ORow W B v []) : ∃ o cap, v = .slice o 0 cap := by
  obtain ⟨o, g, off, cap, hv, _⟩ := h.form
  exact ⟨o, cap, hv⟩
end
end Go.Proofs.Ytnhcjefbiihfjaa
