/-
  What is handed in, opened: a list of texts, a list of numbers.
-/
import Derived.Test.YthkmdonmbdncaaaOpen
namespace Go.Proofs.Ythkmdonmbdncaaa
open Go.RowKit Go.Deep Go.ChangeShapes Go.WideShapes Go.ChangeAt Go.Joins
set_option linter.unusedVariables false

section
variable {H : Type} {enc : TypeId × Value → H} {W : World}
/-- A list of numbers that is handed in. -/
theorem open_nums {b0 : Nat} {v : Value} {d : DataW H} {p : List MemPlace} (hv : Value.okWide Try.prog W .any b0 54 v) (h : DataW.Trod enc Try.prog W 0 (fun _ => true) true 54 v d p) :
    ∃ (o : Option Addr) (b off len cap : Nat) (Z : Nat → Int), v = .slice o len cap ∧ (0 < len → o = some ⟨b, off, none⟩ ∧ b < W.heap.size) ∧ (∀ i, i < len → W.cell? ⟨b, off + i, none⟩ = some (.int .i64 (Z i)) ∧ -9223372036854775808 ≤ Z i ∧ Z i ≤ 9223372036854775807) ∧ len ≤ maxLen := by
  obtain ⟨o, len, cap, rfl⟩ := okWide_slice Try.underlying54 hv
  obtain ⟨fuel, hf⟩ := h
  have hf : DataW.trod enc Try.prog W 0 (fun _ => true) true fuel 54 [.slice o len cap] = some (d, p) := hf
  rcases open_ints Try.underlying54 Try.underlying3 cellsInt hf with ⟨h0, _⟩ | ⟨a, len', cap', zs, h0, _, hlc, hcm, hzl, _, hx, hw⟩
  · simp at h0
    obtain ⟨rfl, rfl, rfl⟩ := h0
    exact ⟨none, 0, 0, 0, 0, fun _ => 0, rfl, by omega, fun i hi => by omega, by unfold maxLen; omega⟩
  · simp at h0
    obtain ⟨rfl, rfl, rfl⟩ := h0
    have hzl : zs.length = cap := by simpa using hzl
    have hp : 0 < len → a = ⟨a.block, a.off, none⟩ ∧ a.block < W.heap.size := fun hp => by
      have := hx 0 (by omega)
      rw [show a.add 0 = a from by simp [Addr.add]] at this
      exact ⟨plain_of_cell this, World.block_lt_of_cell? _ _ this⟩
    refine ⟨some a, a.block, a.off, len, cap, fun i => zs.getD i 0, rfl, fun h => ⟨congrArg some (hp h).1, (hp h).2⟩, fun i hi => ?_, by omega⟩
    have h1 := hx i (by omega)
    have hm : zs.getD i 0 ∈ zs := by
      rw [List.getD_eq_getElem?_getD, List.getElem?_eq_getElem (by omega), Option.getD_some]; exact List.getElem_mem _
    obtain ⟨l1, u1⟩ := bounds_i64 (hw _ hm)
    rw [(hp (by omega)).1, Addr.add_mid] at h1
    exact ⟨h1, l1, u1⟩
/-- A list of texts that is handed in. -/
theorem open_texts {b0 : Nat} {v : Value} {d : DataW H} {p : List MemPlace} (hv : Value.okWide Try.prog W .any b0 53 v) (h : DataW.Trod enc Try.prog W 0 (fun _ => true) true 53 v d p) :
    ∃ (o : Option Addr) (b off len cap : Nat) (X : Nat → ByteArray), v = .slice o len cap ∧ (0 < len → o = some ⟨b, off, none⟩ ∧ b < W.heap.size) ∧ (∀ i, i < len → W.cell? ⟨b, off + i, none⟩ = some (.string (X i)) ∧ (X i).size ≤ maxLen) ∧ len ≤ maxLen := by
  obtain ⟨o, len, cap, rfl⟩ := okWide_slice Try.underlying53 hv
  obtain ⟨fuel, hf⟩ := h
  have hf : DataW.trod enc Try.prog W 0 (fun _ => true) true fuel 53 [.slice o len cap] = some (d, p) := hf
  rcases open_slice Try.underlying53 hf with ⟨h0, _⟩ | ⟨a, len', cap', m, n, D, Pl, h0, _, hlc, hcm, hm, _, hx⟩
  · simp at h0
    obtain ⟨rfl, rfl, rfl⟩ := h0
    exact ⟨none, 0, 0, 0, 0, fun _ => ⟨#[]⟩, rfl, by omega, fun i hi => by omega, by unfold maxLen; omega⟩
  · simp at h0
    obtain ⟨rfl, rfl, rfl⟩ := h0
    have hm : m = cap := by simpa using hm
    subst hm
    rw [cellsStr] at hx
    haveI : Inhabited ByteArray := ⟨⟨#[]⟩⟩
    obtain ⟨X, hX⟩ := choose_lt (α := ByteArray) (p := fun i x => W.cell? (a.add i) = some (.string x) ∧ x.size ≤ maxLen) (fun i hi => by
      obtain ⟨cs, h1, h2⟩ := hx i hi
      obtain ⟨s, hs, _, hz⟩ := DataW.trod_string Try.underlying9 h2
      obtain ⟨_, hl, hc⟩ := World.cells?_some h1
      have h0 := hc 0 (by omega)
      rw [hs] at h0
      refine ⟨s, ?_, hz⟩
      have e : (a.add (i * 1)).add 0 = a.add i := by
        rw [Nat.mul_one]
        obtain ⟨bb, oo, sp⟩ := a
        cases sp <;> rfl
      rw [e] at h0
      simpa using h0)
    have hp : 0 < len → a = ⟨a.block, a.off, none⟩ ∧ a.block < W.heap.size := fun hp => by
      have := (hX 0 (by omega)).1
      rw [show a.add 0 = a from by simp [Addr.add]] at this
      exact ⟨plain_of_cell this, World.block_lt_of_cell? _ _ this⟩
    refine ⟨some a, a.block, a.off, len, m, X, rfl, fun h => ⟨congrArg some (hp h).1, (hp h).2⟩, fun i hi => ?_, by omega⟩
    obtain ⟨h1, h2⟩ := hX i (by omega)
    rw [(hp (by omega)).1, Addr.add_mid] at h1
    exact ⟨h1, h2⟩
end
end Go.Proofs.Ythkmdonmbdncaaa
