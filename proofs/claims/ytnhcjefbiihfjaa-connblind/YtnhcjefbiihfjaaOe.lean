/-
  What is handed in, opened: ends, segments.
-/
import Derived.Test.YtnhcjefbiihfjaaRs
import Derived.WalkKit
import Derived.ProofKit
import Derived.OpenShut
import Derived.ShutString
import Derived.SizedLaws
import Derived.Below
import Derived.Carry
import Derived.Lib.SmallJoins
namespace Go.Proofs.Ytnhcjefbiihfjaa
open Go.ChangeShapes Go.WideShapes Go.ChangeAt Go.RowKit Go.Joins
open Tc (Sg gchk gv gc)
set_option linter.unusedVariables false

theorem list13 {α : Type} {l : List α} (h : l.length = 13) : ∃ c0 c1 c2 c3 c4 c5 c6 c7 c8 c9 c10 c11 c12, l = [c0, c1, c2, c3, c4, c5, c6, c7, c8, c9, c10, c11, c12] := by
  match l, h with
  | [c0, c1, c2, c3, c4, c5, c6, c7, c8, c9, c10, c11, c12], _ => exact ⟨c0, c1, c2, c3, c4, c5, c6, c7, c8, c9, c10, c11, c12, rfl⟩
theorem array2 {α : Type} {cs : Array α} (h : cs.size = 2) : ∃ c0 c1, cs = #[c0, c1] := by
  obtain ⟨l⟩ := cs
  match l, h with
  | [c0, c1], _ => exact ⟨c0, c1, rfl⟩
theorem array13 {α : Type} {cs : Array α} (h : cs.size = 13) : ∃ c0 c1 c2 c3 c4 c5 c6 c7 c8 c9 c10 c11 c12, cs = #[c0, c1, c2, c3, c4, c5, c6, c7, c8, c9, c10, c11, c12] := by
  obtain ⟨l⟩ := cs
  match l, h with
  | [c0, c1, c2, c3, c4, c5, c6, c7, c8, c9, c10, c11, c12], _ => exact ⟨c0, c1, c2, c3, c4, c5, c6, c7, c8, c9, c10, c11, c12, rfl⟩
theorem cells_22 : Try.prog.cellsOf 22 = 1 := by kernel_rfl
theorem cells_3 : Try.prog.cellsOf 3 = 1 := by kernel_rfl
theorem cells_4 : Try.prog.cellsOf 4 = 1 := by kernel_rfl
theorem cells_9 : Try.prog.cellsOf 9 = 1 := by kernel_rfl
theorem cells_24 : Try.prog.cellsOf 24 = 2 := by kernel_rfl
theorem cells_26 : Try.prog.cellsOf 35 = 13 := by kernel_rfl

/-- What a segment that is handed in is known to keep to. -/
structure Fits (g : Sg) : Prop where
  sa : g.sa < 4294967296
  da : g.da < 4294967296
  sq : g.sq < 4294967296
  ak : g.ak < 4294967296
  sp : -9223372036854775808 ≤ g.sp ∧ g.sp ≤ 9223372036854775807
  dp : -9223372036854775808 ≤ g.dp ∧ g.dp ≤ 9223372036854775807
  win : -9223372036854775808 ≤ g.win ∧ g.win ≤ 9223372036854775807
  mss : -9223372036854775808 ≤ g.mss ∧ g.mss ≤ 9223372036854775807
  body : g.body.size ≤ maxLen

/-- An end that is handed in. -/
theorem open_end {H : Type} {enc : TypeId × Value → H} {w : World} {base : Nat} {spare : Nat → Bool} {held : Bool} {n : Nat} {c0 c1 : Value} {y : DataW H × List MemPlace}
    (h : DataW.trod enc Try.prog w base spare held n 24 [c0, c1] = some y) : ∃ (a : Nat) (p : Int), c0 = .int .u32 (a : Int) ∧ c1 = .int .i64 p ∧ a < 4294967296 ∧ -9223372036854775808 ≤ p ∧ p ≤ 9223372036854775807 := by
  obtain ⟨xs, m, _, _, hl, hlen, hf⟩ := DataW.trod_struct Try.underlying24 h
  match xs, hlen with
  | [y0, y1], _ =>
    have h0 : DataW.trod enc Try.prog w base spare held m 22 [c0] = some y0 := by simpa [Value.cells, cells_22] using hf 0 _ rfl
    have h1 : DataW.trod enc Try.prog w base spare held m 3 [c1] = some y1 := by simpa [Value.cells, cells_3] using hf 1 _ rfl
    obtain ⟨a0, e0, _, w0⟩ := DataW.trod_int Try.underlying22 h0
    obtain ⟨a1, e1, _, w1⟩ := DataW.trod_int Try.underlying3 h1
    simp only [List.cons.injEq, and_true] at e0 e1
    subst e0 e1
    obtain ⟨l0, u0⟩ := bounds_u32 w0
    obtain ⟨n0, rfl⟩ := Int.eq_ofNat_of_zero_le l0
    have g1 := bounds_i64 w1
    exact ⟨n0, a1, rfl, rfl, by omega, g1.1, g1.2⟩
theorem open_u32 {H : Type} {enc : TypeId × Value → H} {w : World} {base : Nat} {spare : Nat → Bool} {held : Bool} {n : Nat} {c : Value} {y : DataW H × List MemPlace}
    (h : DataW.trod enc Try.prog w base spare held n 22 [c] = some y) : ∃ a : Nat, c = .int .u32 (a : Int) ∧ a < 4294967296 := by
  obtain ⟨a0, e0, _, w0⟩ := DataW.trod_int Try.underlying22 h
  simp only [List.cons.injEq, and_true] at e0
  subst e0
  obtain ⟨l0, u0⟩ := bounds_u32 w0
  obtain ⟨n0, rfl⟩ := Int.eq_ofNat_of_zero_le l0
  exact ⟨n0, rfl, by omega⟩
theorem open_i64 {H : Type} {enc : TypeId × Value → H} {w : World} {base : Nat} {spare : Nat → Bool} {held : Bool} {n : Nat} {c : Value} {y : DataW H × List MemPlace}
    (h : DataW.trod enc Try.prog w base spare held n 3 [c] = some y) : ∃ a : Int, c = .int .i64 a ∧ -9223372036854775808 ≤ a ∧ a ≤ 9223372036854775807 := by
  obtain ⟨a0, e0, _, w0⟩ := DataW.trod_int Try.underlying3 h
  simp only [List.cons.injEq, and_true] at e0
  subst e0
  have g1 := bounds_i64 w0
  exact ⟨a0, rfl, g1.1, g1.2⟩
theorem open_bool1 {H : Type} {enc : TypeId × Value → H} {w : World} {base : Nat} {spare : Nat → Bool} {held : Bool} {n : Nat} {c : Value} {y : DataW H × List MemPlace}
    (h : DataW.trod enc Try.prog w base spare held n 4 [c] = some y) : ∃ a : Bool, c = .bool a := by
  obtain ⟨a0, e0, _⟩ := DataW.trod_bool Try.underlying4 h
  simp only [List.cons.injEq, and_true] at e0
  exact ⟨a0, e0⟩

set_option maxRecDepth 100000 in
theorem open_seg {H : Type} {enc : TypeId × Value → H} {w : World} {base : Nat} {spare : Nat → Bool} {held : Bool} {fuel : Nat} {cs : List Value} {y : DataW H × List MemPlace}
    (hf : DataW.trod enc Try.prog w base spare held fuel 35 cs = some y) : ∃ g : Sg, cs = gcl g ∧ Fits g := by
  obtain ⟨xs, n, _, _, hl, hlen, hf⟩ := DataW.trod_struct Try.underlying35 hf
  obtain ⟨c0, c1, c2, c3, c4, c5, c6, c7, c8, c9, c10, c11, c12, rfl⟩ := list13 (hl.trans cells_26)
  match xs, hlen with
  | [y0, y1, y2, y3, y4, y5, y6, y7, y8, y9, y10], _ =>
    have h0 : DataW.trod enc Try.prog w base spare held n 24 [c0, c1] = some y0 := by simpa [Value.cells, cells_24] using hf 0 _ rfl
    have h1 : DataW.trod enc Try.prog w base spare held n 24 [c2, c3] = some y1 := by simpa [Value.cells, cells_24] using hf 1 _ rfl
    have h2 : DataW.trod enc Try.prog w base spare held n 22 [c4] = some y2 := by simpa [Value.cells, cells_22] using hf 2 _ rfl
    have h3 : DataW.trod enc Try.prog w base spare held n 22 [c5] = some y3 := by simpa [Value.cells, cells_22] using hf 3 _ rfl
    have h4 : DataW.trod enc Try.prog w base spare held n 4 [c6] = some y4 := by simpa [Value.cells, cells_4] using hf 4 _ rfl
    have h5 : DataW.trod enc Try.prog w base spare held n 4 [c7] = some y5 := by simpa [Value.cells, cells_4] using hf 5 _ rfl
    have h6 : DataW.trod enc Try.prog w base spare held n 4 [c8] = some y6 := by simpa [Value.cells, cells_4] using hf 6 _ rfl
    have h7 : DataW.trod enc Try.prog w base spare held n 4 [c9] = some y7 := by simpa [Value.cells, cells_4] using hf 7 _ rfl
    have h8 : DataW.trod enc Try.prog w base spare held n 3 [c10] = some y8 := by simpa [Value.cells, cells_3] using hf 8 _ rfl
    have h9 : DataW.trod enc Try.prog w base spare held n 3 [c11] = some y9 := by simpa [Value.cells, cells_3] using hf 9 _ rfl
    have h10 : DataW.trod enc Try.prog w base spare held n 9 [c12] = some y10 := by simpa [Value.cells, cells_9] using hf 10 _ rfl
    obtain ⟨a, p, rfl, rfl, ha, hp⟩ := open_end h0
    obtain ⟨b, q, rfl, rfl, hb, hq⟩ := open_end h1
    obtain ⟨sq, rfl, hsq⟩ := open_u32 h2
    obtain ⟨ak, rfl, hak⟩ := open_u32 h3
    obtain ⟨f1, rfl⟩ := open_bool1 h4
    obtain ⟨f2, rfl⟩ := open_bool1 h5
    obtain ⟨f3, rfl⟩ := open_bool1 h6
    obtain ⟨f4, rfl⟩ := open_bool1 h7
    obtain ⟨wn, rfl, hwn⟩ := open_i64 h8
    obtain ⟨ms, rfl, hms⟩ := open_i64 h9
    obtain ⟨s, e2, _, w2⟩ := DataW.trod_string Try.underlying9 h10
    simp only [List.cons.injEq, and_true] at e2
    subst e2
    exact ⟨⟨a, p, b, q, sq, ak, f1, f2, f3, f4, wn, ms, s⟩, rfl, ⟨ha, hb, hsq, hak, hp, hq, hwn, hms, w2⟩⟩
set_option maxRecDepth 100000 in
theorem open_gr {H : Type} {enc : TypeId × Value → H} {w : World} {base : Nat} {spare : Nat → Bool} {held : Bool} {r : Reach} {b0 : Nat} {v : Value} {d : DataW H} {ps : List MemPlace}
    (hv : Value.okWide Try.prog w r b0 35 v) (h : DataW.Trod enc Try.prog w base spare held 35 v d ps) : ∃ g : Sg, v = gv g ∧ Fits g := by
  obtain ⟨cs, rfl, hsz⟩ := okWide_struct Try.underlying35 hv
  obtain ⟨fuel, hf⟩ := h
  obtain ⟨g, hg, hF⟩ := open_seg hf
  refine ⟨g, ?_, hF⟩
  have : cs = gc g := by
    apply Array.toList_inj.1
    simpa [Value.cells] using hg
  rw [this]
set_option maxRecDepth 100000 in
theorem open_ev {H : Type} {enc : TypeId × Value → H} {w : World} {base : Nat} {spare : Nat → Bool} {held : Bool} {r : Reach} {b0 : Nat} {v : Value} {d : DataW H} {ps : List MemPlace}
    (hv : Value.okWide Try.prog w r b0 24 v) (h : DataW.Trod enc Try.prog w base spare held 24 v d ps) : ∃ e : Nat × Int, v = ev e ∧ e.1 < 4294967296 ∧ -9223372036854775808 ≤ e.2 ∧ e.2 ≤ 9223372036854775807 := by
  obtain ⟨cs, rfl, hsz⟩ := okWide_struct Try.underlying24 hv
  obtain ⟨c0, c1, rfl⟩ := array2 (hsz.trans cells_24)
  obtain ⟨fuel, hf⟩ := h
  obtain ⟨a, p, rfl, rfl, h1, h2, h3⟩ := open_end hf
  exact ⟨(a, p), rfl, h1, h2, h3⟩
end Go.Proofs.Ytnhcjefbiihfjaa
