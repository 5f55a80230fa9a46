/-
  A list of steps that is handed in, opened: where its cells lie, and what they hold.
-/
import Derived.Test.YtchmfbfijglokaaStep
import Derived.Deep.Slices
import Derived.Carry
namespace Go.Proofs.Ytchmfbfijglokaa
open Go.RowKit Go.Deep Go.ChangeShapes Go.WideShapes Go.ChangeAt Go.Joins
set_option linter.unusedVariables false

theorem plain_of_cell {w : World} {a : Addr} {v : Value} (h : w.cell? a = some v) : a = ⟨a.block, a.off, none⟩ := by
  obtain ⟨b, o, sp⟩ := a
  cases sp with
  | none => rfl
  | some s =>
    exfalso
    unfold World.cell? at h
    split at h <;> simp at h

section
variable {H : Type} {enc : TypeId × Value → H} {W : World}
/-- Of what is read at this type every cell is one. -/
def Ones (enc : TypeId × Value → H) (W : World) (t : TypeId) : Prop := ∀ n ds y, DataW.trod enc Try.prog W 0 (fun _ => true) true n t ds = some y → ∀ v ∈ ds, v.oneCell' = true
theorem ones_int {t : TypeId} {k : IntKind} (ht : Try.prog.underlying t = some (.int k)) : Ones enc W t := fun n ds y h v hv => by
  obtain ⟨m, rfl, _⟩ := DataW.trod_int ht h
  simp at hv; subst hv; rfl
theorem ones_bool {t : TypeId} (ht : Try.prog.underlying t = some .bool) : Ones enc W t := fun n ds y h v hv => by
  obtain ⟨m, rfl, _⟩ := DataW.trod_bool ht h
  simp at hv; subst hv; rfl
theorem ones_string {t : TypeId} (ht : Try.prog.underlying t = some .string) : Ones enc W t := fun n ds y h v hv => by
  obtain ⟨m, rfl, _⟩ := DataW.trod_string ht h
  simp at hv; subst hv; rfl
theorem ones_struct {t : TypeId} {fs : Array Field} (ts : List TypeId) (ht : Try.prog.underlying t = some (.struct fs))
    (hcov : ((List.range (Try.prog.cellsOf t)).all fun j => fs.any fun f => decide (f.offset ≤ j) && decide (j < f.offset + Try.prog.cellsOf f.type)) = true)
    (hty : (fs.all fun f => ts.contains f.type) = true) (hts : ∀ s ∈ ts, Ones enc W s) : Ones enc W t := fun n ds y h v hv => by
  obtain ⟨xs, m, _, _, hl, hlen, hf⟩ := DataW.trod_struct ht h
  obtain ⟨j, hj, rfl⟩ := List.getElem_of_mem hv
  have h1 := List.all_eq_true.1 hcov j (by rw [List.mem_range]; omega)
  rw [Array.any_eq_true] at h1
  obtain ⟨i, hi, h2⟩ := h1
  simp only [Bool.and_eq_true, decide_eq_true_eq] at h2
  have h3 := hf i fs[i] (by simp [hi])
  rw [List.getElem?_eq_getElem (by omega)] at h3
  have h4 := Array.all_eq_true.1 hty i hi
  have h5 := hts fs[i].type (by simpa using h4) _ _ _ h3
  refine h5 _ ?_
  rw [List.mem_iff_getElem?]
  refine ⟨j - fs[i].offset, ?_⟩
  rw [List.getElem?_take, if_pos (by omega), List.getElem?_drop, show fs[i].offset + (j - fs[i].offset) = j from by omega, List.getElem?_eq_getElem hj]

theorem ones34 : Ones enc W 34 := ones_struct [32, 3] Try.underlying34 (by kernel_rfl) (by kernel_rfl) (by simp; exact ⟨ones_int Try.underlying32, ones_int Try.underlying3⟩)
theorem ones38 : Ones enc W 38 := ones_struct [32, 3] Try.underlying38 (by kernel_rfl) (by kernel_rfl) (by simp; exact ⟨ones_int Try.underlying32, ones_int Try.underlying3⟩)
theorem ones36 : Ones enc W 36 := ones_struct [32, 3, 4, 9] Try.underlying36 (by kernel_rfl) (by kernel_rfl) (by simp; exact ⟨ones_int Try.underlying32, ones_int Try.underlying3, ones_bool Try.underlying4, ones_string Try.underlying9⟩)
theorem ones40 : Ones enc W 40 := ones_struct [32, 3, 4, 9, 38] Try.underlying40 (by kernel_rfl) (by kernel_rfl) (by simp; exact ⟨ones_int Try.underlying32, ones_int Try.underlying3, ones_bool Try.underlying4, ones_string Try.underlying9, ones38⟩)
theorem ones42 : Ones enc W 42 := ones_struct [9, 38] Try.underlying42 (by kernel_rfl) (by kernel_rfl) (by simp; exact ⟨ones_string Try.underlying9, ones38⟩)
theorem ones44 : Ones enc W 44 := ones_struct [3, 4, 38] Try.underlying44 (by kernel_rfl) (by kernel_rfl) (by simp; exact ⟨ones_int Try.underlying3, ones_bool Try.underlying4, ones38⟩)
theorem ones46 : Ones enc W 46 := ones_struct [3, 4, 9, 34, 36, 40, 42, 38, 44] Try.underlying46 (by kernel_rfl) (by kernel_rfl)
  (by simp; exact ⟨ones_int Try.underlying3, ones_bool Try.underlying4, ones_string Try.underlying9, ones34, ones36, ones40, ones42, ones38, ones44⟩)

theorem cells3 : Try.prog.cellsOf 3 = 1 := by kernel_rfl
theorem cells32 : Try.prog.cellsOf 32 = 1 := by kernel_rfl
theorem cells34 : Try.prog.cellsOf 34 = 2 := by kernel_rfl
theorem cells46 : Try.prog.cellsOf 46 = 45 := by kernel_rfl
theorem take_one {cs : List Value} {o : Nat} {v : Value} (h : (cs.drop o).take 1 = [v]) : cs[o]? = some v := by
  have := congrArg (fun l : List Value => l[0]?) h
  simpa [List.getElem?_take, List.getElem?_drop] using this
theorem take_two {cs : List Value} {o n i : Nat} {v : Value} (h : (((cs.drop o).take n).drop i).take 1 = [v]) (hi : i < n) : cs[o + i]? = some v := by
  have := take_one h
  rwa [List.getElem?_take, if_pos hi, List.getElem?_drop] at this

/-- One step's cells. -/
theorem step_cells {n : Nat} {cs : List Value} {y : DataW H × List MemPlace} (h : DataW.trod enc Try.prog W 0 (fun _ => true) true n 46 cs = some y) : ∃ s, StpCells cs s := by
  obtain ⟨xs, m, _, _, hl, hlen, hf⟩ := DataW.trod_struct Try.underlying46 h
  have hlen : xs.length = 12 := hlen
  have g : ∀ i, i < 12 → ∃ y, xs[i]? = some y := fun i hi => ⟨xs[i]'(by omega), List.getElem?_eq_getElem (by omega)⟩
  obtain ⟨y0, e0⟩ := g 0 (by omega)
  obtain ⟨y1, e1⟩ := g 1 (by omega)
  obtain ⟨y5, e5⟩ := g 5 (by omega)
  have f0 : DataW.trod enc Try.prog W 0 (fun _ => true) true m 3 ((cs.drop 0).take (Try.prog.cellsOf 3)) = some y0 := (hf 0 _ rfl).trans e0
  have f1 : DataW.trod enc Try.prog W 0 (fun _ => true) true m 3 ((cs.drop 1).take (Try.prog.cellsOf 3)) = some y1 := (hf 1 _ rfl).trans e1
  have f5 : DataW.trod enc Try.prog W 0 (fun _ => true) true m 34 ((cs.drop 5).take (Try.prog.cellsOf 34)) = some y5 := (hf 5 _ rfl).trans e5
  clear hf
  obtain ⟨k, hk, _, wk⟩ := DataW.trod_int Try.underlying3 f0
  obtain ⟨a, ha, _, _⟩ := DataW.trod_int Try.underlying3 f1
  obtain ⟨z0, z1, q, _, _, p0, p1⟩ := trod_struct2 Try.underlying34 f5
  have p0 : DataW.trod enc Try.prog W 0 (fun _ => true) true q 32 ((((cs.drop 5).take (Try.prog.cellsOf 34)).drop 0).take (Try.prog.cellsOf 32)) = some z0 := p0
  have p1 : DataW.trod enc Try.prog W 0 (fun _ => true) true q 3 ((((cs.drop 5).take (Try.prog.cellsOf 34)).drop 1).take (Try.prog.cellsOf 3)) = some z1 := p1
  obtain ⟨pa, hpa, _, wa⟩ := DataW.trod_int Try.underlying32 p0
  obtain ⟨pb, hpb, _, _⟩ := DataW.trod_int Try.underlying3 p1
  obtain ⟨l0, u0⟩ := bounds_u32 wa
  obtain ⟨na, rfl⟩ := Int.eq_ofNat_of_zero_le l0
  obtain ⟨lk, uk⟩ := bounds_i64 wk
  rw [cells3] at hk ha
  rw [cells34, cells32] at hpa
  rw [cells34, cells3] at hpb
  exact ⟨⟨k, a, na, pb⟩, by rw [hl]; exact cells46, ones46 _ _ _ h, take_one hk, take_one ha, take_two (i := 0) hpa (by omega), take_two (i := 1) hpb (by omega), lk, uk, by show na < _; omega⟩

/-- A list of steps that is handed in. -/
theorem open_steps {b0 : Nat} {v : Value} {d : DataW H} {p : List MemPlace} (hv : Value.okWide Try.prog W .any b0 22 v) (h : DataW.Trod enc Try.prog W 0 (fun _ => true) true 22 v d p) :
    ∃ (o : Option Addr) (b off len cap : Nat) (C : Nat → List Value) (S : Nat → Stp), v = .slice o len cap ∧ (0 < len → o = some ⟨b, off, none⟩ ∧ b < W.heap.size) ∧ StepsAt W b off len C S ∧ len ≤ maxLen := by
  obtain ⟨o, len, cap, rfl⟩ := okWide_slice Try.underlying22 hv
  obtain ⟨fuel, hf⟩ := h
  have hf : DataW.trod enc Try.prog W 0 (fun _ => true) true fuel 22 [.slice o len cap] = some (d, p) := hf
  rcases open_slice Try.underlying22 hf with ⟨h0, _⟩ | ⟨a, len', cap', m, n, D, Pl, h0, _, hlc, hcm, hm, _, hx⟩
  · simp at h0
    obtain ⟨rfl, rfl, rfl⟩ := h0
    exact ⟨none, 0, 0, 0, 0, fun _ => [], fun _ => ⟨0, 0, 0, 0⟩, rfl, by omega, fun i hi => by omega, by unfold maxLen; omega⟩
  · simp at h0
    obtain ⟨rfl, rfl, rfl⟩ := h0
    have hm : m = cap := by simpa using hm
    subst hm
    rw [cells46] at hx
    obtain ⟨C, hC⟩ := choose_lt (α := List Value) (p := fun i cs => W.cells? 0 (a.add (i * 45)) 45 = some cs ∧ ∃ s, StpCells cs s) (fun i hi => by
      obtain ⟨cs, h1, h2⟩ := hx i hi
      exact ⟨cs, h1, step_cells h2⟩)
    haveI : Inhabited Stp := ⟨⟨0, 0, 0, 0⟩⟩
    obtain ⟨S, hS⟩ := choose_lt (α := Stp) (p := fun i s => StpCells (C i) s) (fun i hi => (hC i hi).2)
    refine ⟨some a, a.block, a.off, len, m, C, S, rfl, fun hp => ?_, fun i hi => ⟨?_, hS i (by omega)⟩, by omega⟩
    · obtain ⟨h1, s, h2⟩ := hC 0 (by omega)
      obtain ⟨_, hl, hc⟩ := World.cells?_some h1
      have hc0 := hc 0 (by omega)
      have e : (a.add (0 * 45)).add 0 = a := by simp [Addr.add]
      rw [e, List.getElem?_eq_getElem (by omega)] at hc0
      exact ⟨congrArg some (plain_of_cell hc0), World.block_lt_of_cell? _ _ hc0⟩
    · obtain ⟨h1, s, h2⟩ := hC i (by omega)
      obtain ⟨_, hl, hc⟩ := World.cells?_some h1
      obtain ⟨h01, _⟩ := hC 0 (by omega)
      obtain ⟨_, hl0, hc0⟩ := World.cells?_some h01
      have hp : a = ⟨a.block, a.off, none⟩ := by
        have := hc0 0 (by omega)
        have e : (a.add (0 * 45)).add 0 = a := by simp [Addr.add]
        rw [e, List.getElem?_eq_getElem (by omega)] at this
        exact plain_of_cell this
      intro j v hv
      have hj : j < 45 := by
        have := (List.getElem?_eq_some_iff.1 hv).1
        omega
      have := hc j hj
      rw [hp, Addr.add_mid, Addr.add_mid, hv] at this
      exact this
end
end Go.Proofs.Ytchmfbfijglokaa
