/-
  An end that is handed in, opened.
-/
import Derived.Test.YtoococeaanndkaaDoorBa
import Derived.OpenShut
import Derived.ShutString
import Derived.SizedLaws
import Derived.Carry
namespace Go.Proofs.YtoococeaanndkaaDoor
open Go.ChangeShapes Go.WideShapes Go.ChangeAt Go.RowKit Go.Joins
set_option linter.unusedVariables false

/-- An end. -/
structure En where
  a : Nat
  p : Int
/-- What an end that is handed in is known to keep to. -/
structure EFits (e : En) : Prop where
  a : e.a < 4294967296
  p : -9223372036854775808 ≤ e.p ∧ e.p ≤ 9223372036854775807
def ev (e : En) : Value := .agg #[.int .u32 (e.a : Int), .int .i64 e.p]

theorem array2 {α : Type} {cs : Array α} (h : cs.size = 2) : ∃ c0 c1, cs = #[c0, c1] := by
  obtain ⟨l⟩ := cs
  match l, h with
  | [c0, c1], _ => exact ⟨c0, c1, rfl⟩
theorem cells_u32 : Tryd.prog.cellsOf 23 = 1 := by kernel_rfl
theorem cells_int : Tryd.prog.cellsOf 3 = 1 := by kernel_rfl
theorem cells_end : Tryd.prog.cellsOf 25 = 2 := by kernel_rfl
theorem open_end {H : Type} {enc : TypeId × Value → H} {w : World} {base : Nat} {spare : Nat → Bool} {held : Bool} {n : Nat} {c0 c1 : Value} {y : DataW H × List MemPlace}
    (h : DataW.trod enc Tryd.prog w base spare held n 25 [c0, c1] = some y) : ∃ e : En, c0 = .int .u32 (e.a : Int) ∧ c1 = .int .i64 e.p ∧ EFits e := by
  obtain ⟨xs, m, _, _, hl, hlen, hf⟩ := DataW.trod_struct Tryd.underlying25 h
  match xs, hlen with
  | [y0, y1], _ =>
    have h0 : DataW.trod enc Tryd.prog w base spare held m 23 [c0] = some y0 := by simpa [Value.cells, cells_u32] using hf 0 _ rfl
    have h1 : DataW.trod enc Tryd.prog w base spare held m 3 [c1] = some y1 := by simpa [Value.cells, cells_int] using hf 1 _ rfl
    obtain ⟨a0, e0, _, w0⟩ := DataW.trod_int Tryd.underlying23 h0
    obtain ⟨a1, e1, _, w1⟩ := DataW.trod_int Tryd.underlying3 h1
    simp only [List.cons.injEq, and_true] at e0 e1
    subst e0 e1
    obtain ⟨l0, u0⟩ := bounds_u32 w0
    obtain ⟨n0, rfl⟩ := Int.eq_ofNat_of_zero_le l0
    have g1 := bounds_i64 w1
    exact ⟨⟨n0, a1⟩, rfl, rfl, by show n0 < 4294967296; omega, g1⟩
theorem open_ev {H : Type} {enc : TypeId × Value → H} {w : World} {base : Nat} {spare : Nat → Bool} {held : Bool} {r : Reach} {b0 : Nat} {v : Value} {d : DataW H} {ps : List MemPlace}
    (hv : Value.okWide Tryd.prog w r b0 25 v) (h : DataW.Trod enc Tryd.prog w base spare held 25 v d ps) : ∃ e : En, v = ev e ∧ EFits e := by
  obtain ⟨cs, rfl, hsz⟩ := okWide_struct Tryd.underlying25 hv
  obtain ⟨c0, c1, rfl⟩ := array2 (hsz.trans cells_end)
  obtain ⟨fuel, hf⟩ := h
  obtain ⟨e, rfl, rfl, h1⟩ := open_end hf
  exact ⟨e, rfl, h1⟩
end Go.Proofs.YtoococeaanndkaaDoor
