/-
  A datagram that is handed in: its value, opened.
-/
import Derived.Test.YtaijmccdlffjhaaGr
import Derived.ProofKit
import Derived.OpenShut
import Derived.ShutString
import Derived.SizedLaws
import Derived.Below
import Derived.Carry
import Derived.Lib.SmallJoins
namespace Go.Proofs.Ytaijmccdlffjhaa
open Go.ChangeShapes Go.WideShapes Go.ChangeAt Go.RowKit Go.Joins
set_option linter.unusedVariables false

theorem array5 {α : Type} {cs : Array α} (h : cs.size = 5) : ∃ c0 c1 c2 c3 c4, cs = #[c0, c1, c2, c3, c4] := by
  obtain ⟨l⟩ := cs
  match l, h with
  | [c0, c1, c2, c3, c4], _ => exact ⟨c0, c1, c2, c3, c4, rfl⟩
theorem cells22 : Try.prog.cellsOf 22 = 1 := by kernel_rfl
theorem cells3 : Try.prog.cellsOf 3 = 1 := by kernel_rfl
theorem cells9 : Try.prog.cellsOf 9 = 1 := by kernel_rfl
theorem cells24 : Try.prog.cellsOf 24 = 2 := by kernel_rfl
theorem cells26 : Try.prog.cellsOf 26 = 5 := by kernel_rfl

/-- What a datagram that is handed in is known to keep to. -/
structure Fits (g : Gr) : Prop where
  sa : g.sa < 4294967296
  da : g.da < 4294967296
  sp : -9223372036854775808 ≤ g.sp ∧ g.sp ≤ 9223372036854775807
  dp : -9223372036854775808 ≤ g.dp ∧ g.dp ≤ 9223372036854775807
  body : g.body.size ≤ maxLen

/-- An end that is handed in. -/
theorem open_end {H : Type} {enc : TypeId × Value → H} {w : World} {base : Nat} {spare : Nat → Bool} {held : Bool} {n : Nat} {c0 c1 : Value} {y : DataW H × List MemPlace}
    (h : DataW.trod enc Try.prog w base spare held n 24 [c0, c1] = some y) : ∃ (a : Nat) (p : Int), c0 = .int .u32 (a : Int) ∧ c1 = .int .i64 p ∧ a < 4294967296 ∧ -9223372036854775808 ≤ p ∧ p ≤ 9223372036854775807 := by
  obtain ⟨xs, m, _, _, hl, hlen, hf⟩ := DataW.trod_struct Try.underlying24 h
  match xs, hlen with
  | [y0, y1], _ =>
    have h0 : DataW.trod enc Try.prog w base spare held m 22 [c0] = some y0 := by simpa [Value.cells, cells22] using hf 0 _ rfl
    have h1 : DataW.trod enc Try.prog w base spare held m 3 [c1] = some y1 := by simpa [Value.cells, cells3] using hf 1 _ rfl
    obtain ⟨a0, e0, _, w0⟩ := DataW.trod_int Try.underlying22 h0
    obtain ⟨a1, e1, _, w1⟩ := DataW.trod_int Try.underlying3 h1
    simp only [List.cons.injEq, and_true] at e0 e1
    subst e0 e1
    obtain ⟨l0, u0⟩ := bounds_u32 w0
    obtain ⟨n0, rfl⟩ := Int.eq_ofNat_of_zero_le l0
    have g1 := bounds_i64 w1
    exact ⟨n0, a1, rfl, rfl, by omega, g1.1, g1.2⟩

set_option maxRecDepth 100000 in
theorem open_gr {H : Type} {enc : TypeId × Value → H} {w : World} {base : Nat} {spare : Nat → Bool} {held : Bool} {r : Reach} {b0 : Nat} {v : Value} {d : DataW H} {ps : List MemPlace}
    (hv : Value.okWide Try.prog w r b0 26 v) (h : DataW.Trod enc Try.prog w base spare held 26 v d ps) : ∃ g : Gr, v = gv g ∧ Fits g := by
  obtain ⟨cs, rfl, hsz⟩ := okWide_struct Try.underlying26 hv
  obtain ⟨c0, c1, c2, c3, c4, rfl⟩ := array5 (hsz.trans cells26)
  obtain ⟨fuel, hf⟩ := h
  obtain ⟨xs, n, _, _, hl, hlen, hf⟩ := DataW.trod_struct Try.underlying26 hf
  match xs, hlen with
  | [y0, y1, y2], _ =>
    have h0 : DataW.trod enc Try.prog w base spare held n 24 [c0, c1] = some y0 := by simpa [Value.cells, cells24] using hf 0 _ rfl
    have h1 : DataW.trod enc Try.prog w base spare held n 24 [c2, c3] = some y1 := by simpa [Value.cells, cells24] using hf 1 _ rfl
    have h2 : DataW.trod enc Try.prog w base spare held n 9 [c4] = some y2 := by simpa [Value.cells, cells9] using hf 2 _ rfl
    obtain ⟨a, p, rfl, rfl, ha, hp⟩ := open_end h0
    obtain ⟨b, q, rfl, rfl, hb, hq⟩ := open_end h1
    obtain ⟨s, e2, _, w2⟩ := DataW.trod_string Try.underlying9 h2
    simp only [List.cons.injEq, and_true] at e2
    subst e2
    exact ⟨⟨a, p, b, q, s⟩, rfl, ⟨ha, hb, hp, hq, w2⟩⟩
end Go.Proofs.Ytaijmccdlffjhaa
