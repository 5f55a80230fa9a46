/-
  What is handed in, opened: a packet, a list of numbers, a list of steps.
-/
import Derived.Test.YtfnmcnbiahfnfaaPk
import Derived.ProofKit
import Derived.OpenShut
import Derived.ShutString
import Derived.SizedLaws
import Derived.Below
import Derived.Carry
import Derived.Lib.SmallJoins
import Derived.Deep.Slices
import Derived.Deep.MidRow
namespace Go.Proofs.Ytfnmcnbiahfnfaa
open Go.RowKit Go.Deep Go.ChangeShapes Go.WideShapes Go.ChangeAt Go.Joins
set_option linter.unusedVariables false

theorem array9 {α : Type} {cs : Array α} (h : cs.size = 9) : ∃ c0 c1 c2 c3 c4 c5 c6 c7 c8, cs = #[c0, c1, c2, c3, c4, c5, c6, c7, c8] := by
  obtain ⟨l⟩ := cs
  match l, h with
  | [c0, c1, c2, c3, c4, c5, c6, c7, c8], _ => exact ⟨c0, c1, c2, c3, c4, c5, c6, c7, c8, rfl⟩
theorem cells22 : Try.prog.cellsOf 22 = 1 := by kernel_rfl
theorem cells3 : Try.prog.cellsOf 3 = 1 := by kernel_rfl
theorem cells4 : Try.prog.cellsOf 4 = 1 := by kernel_rfl
theorem cells9 : Try.prog.cellsOf 9 = 1 := by kernel_rfl
theorem cells24 : Try.prog.cellsOf 24 = 9 := by kernel_rfl

/-- What a packet that is handed in is known to keep to. -/
structure Fits (p : Pk) : Prop where
  src : p.src < 4294967296
  dst : p.dst < 4294967296
  proto : -9223372036854775808 ≤ p.proto ∧ p.proto ≤ 9223372036854775807
  ttl : -9223372036854775808 ≤ p.ttl ∧ p.ttl ≤ 9223372036854775807
  id : -9223372036854775808 ≤ p.id ∧ p.id ≤ 9223372036854775807
  off : -9223372036854775808 ≤ p.off ∧ p.off ≤ 9223372036854775807
  body : p.body.size ≤ maxLen

set_option maxRecDepth 100000 in
theorem open_pcl {H : Type} {enc : TypeId × Value → H} {w : World} {base : Nat} {spare : Nat → Bool} {held : Bool} {n : Nat} {cs : List Value} {y : DataW H × List MemPlace}
    (h : DataW.trod enc Try.prog w base spare held n 24 cs = some y) : ∃ p : Pk, cs = pcl p ∧ Fits p := by
  obtain ⟨xs, n, _, _, hl, hlen, hf⟩ := DataW.trod_struct Try.underlying24 h
  have hl : cs.length = 9 := hl.trans cells24
  obtain ⟨c0, c1, c2, c3, c4, c5, c6, c7, c8, e⟩ := array9 (cs := cs.toArray) (by simpa using hl)
  obtain rfl : cs = [c0, c1, c2, c3, c4, c5, c6, c7, c8] := by simpa using congrArg Array.toList e
  match xs, hlen with
  | [y0, y1, y2, y3, y4, y5, y6, y7, y8], _ =>
    have h0 : DataW.trod enc Try.prog w base spare held n 22 [c0] = some y0 := by simpa [Value.cells, cells22] using hf 0 _ rfl
    have h1 : DataW.trod enc Try.prog w base spare held n 22 [c1] = some y1 := by simpa [Value.cells, cells22] using hf 1 _ rfl
    have h2 : DataW.trod enc Try.prog w base spare held n 3 [c2] = some y2 := by simpa [Value.cells, cells3] using hf 2 _ rfl
    have h3 : DataW.trod enc Try.prog w base spare held n 3 [c3] = some y3 := by simpa [Value.cells, cells3] using hf 3 _ rfl
    have h4 : DataW.trod enc Try.prog w base spare held n 3 [c4] = some y4 := by simpa [Value.cells, cells3] using hf 4 _ rfl
    have h5 : DataW.trod enc Try.prog w base spare held n 4 [c5] = some y5 := by simpa [Value.cells, cells4] using hf 5 _ rfl
    have h6 : DataW.trod enc Try.prog w base spare held n 4 [c6] = some y6 := by simpa [Value.cells, cells4] using hf 6 _ rfl
    have h7 : DataW.trod enc Try.prog w base spare held n 3 [c7] = some y7 := by simpa [Value.cells, cells3] using hf 7 _ rfl
    have h8 : DataW.trod enc Try.prog w base spare held n 9 [c8] = some y8 := by simpa [Value.cells, cells9] using hf 8 _ rfl
    obtain ⟨a0, e0, _, w0⟩ := DataW.trod_int Try.underlying22 h0
    obtain ⟨a1, e1, _, w1⟩ := DataW.trod_int Try.underlying22 h1
    obtain ⟨a2, e2, _, w2⟩ := DataW.trod_int Try.underlying3 h2
    obtain ⟨a3, e3, _, w3⟩ := DataW.trod_int Try.underlying3 h3
    obtain ⟨a4, e4, _, w4⟩ := DataW.trod_int Try.underlying3 h4
    obtain ⟨a5, e5, _⟩ := DataW.trod_bool Try.underlying4 h5
    obtain ⟨a6, e6, _⟩ := DataW.trod_bool Try.underlying4 h6
    obtain ⟨a7, e7, _, w7⟩ := DataW.trod_int Try.underlying3 h7
    obtain ⟨a8, e8, _, w8⟩ := DataW.trod_string Try.underlying9 h8
    simp only [List.cons.injEq, and_true] at e0 e1 e2 e3 e4 e5 e6 e7 e8
    subst e0 e1 e2 e3 e4 e5 e6 e7 e8
    obtain ⟨l0, u0⟩ := bounds_u32 w0
    obtain ⟨n0, rfl⟩ := Int.eq_ofNat_of_zero_le l0
    obtain ⟨l1, u1⟩ := bounds_u32 w1
    obtain ⟨n1, rfl⟩ := Int.eq_ofNat_of_zero_le l1
    have g2 := bounds_i64 w2
    have g3 := bounds_i64 w3
    have g4 := bounds_i64 w4
    have g7 := bounds_i64 w7
    exact ⟨⟨n0, n1, a2, a3, a4, a5, a6, a7, a8⟩, rfl, ⟨by show n0 < _; omega, by show n1 < _; omega, g2, g3, g4, g7, w8⟩⟩
theorem open_pk {H : Type} {enc : TypeId × Value → H} {w : World} {base : Nat} {spare : Nat → Bool} {held : Bool} {r : Reach} {b0 : Nat} {v : Value} {d : DataW H} {ps : List MemPlace}
    (hv : Value.okWide Try.prog w r b0 24 v) (h : DataW.Trod enc Try.prog w base spare held 24 v d ps) : ∃ p : Pk, v = pv p ∧ Fits p := by
  obtain ⟨cs, rfl, hsz⟩ := okWide_struct Try.underlying24 hv
  obtain ⟨fuel, hf⟩ := h
  obtain ⟨p, hp, fp⟩ := open_pcl hf
  have hp : cs.toList = pcl p := by simpa [Value.cells] using hp
  exact ⟨p, by rw [pv, show cs = pc p from by apply Array.toList_inj.1; exact hp], fp⟩

theorem plain_of_cell {w : World} {a : Addr} {v : Value} (h : w.cell? a = some v) : a = ⟨a.block, a.off, none⟩ := by
  obtain ⟨b, o, sp⟩ := a
  cases sp with
  | none => rfl
  | some s =>
    exfalso
    unfold World.cell? at h
    split at h <;> simp at h

section
variable {H : Type} {enc : TypeId × Value → H} {W : World}
/-- Of what is read at this type every cell is one. -/
def Ones (enc : TypeId × Value → H) (W : World) (t : TypeId) : Prop := ∀ n ds y, DataW.trod enc Try.prog W 0 (fun _ => true) true n t ds = some y → ∀ v ∈ ds, v.oneCell' = true
theorem ones_int {t : TypeId} {k : IntKind} (ht : Try.prog.underlying t = some (.int k)) : Ones enc W t := fun n ds y h v hv => by
  obtain ⟨m, rfl, _⟩ := DataW.trod_int ht h
  simp at hv; subst hv; rfl
theorem ones_bool {t : TypeId} (ht : Try.prog.underlying t = some .bool) : Ones enc W t := fun n ds y h v hv => by
  obtain ⟨m, rfl, _⟩ := DataW.trod_bool ht h
  simp at hv; subst hv; rfl
theorem ones_string {t : TypeId} (ht : Try.prog.underlying t = some .string) : Ones enc W t := fun n ds y h v hv => by
  obtain ⟨m, rfl, _⟩ := DataW.trod_string ht h
  simp at hv; subst hv; rfl
theorem ones_struct {t : TypeId} {fs : Array Field} (ts : List TypeId) (ht : Try.prog.underlying t = some (.struct fs))
    (hcov : ((List.range (Try.prog.cellsOf t)).all fun j => fs.any fun f => decide (f.offset ≤ j) && decide (j < f.offset + Try.prog.cellsOf f.type)) = true)
    (hty : (fs.all fun f => ts.contains f.type) = true) (hts : ∀ s ∈ ts, Ones enc W s) : Ones enc W t := fun n ds y h v hv => by
  obtain ⟨xs, m, _, _, hl, hlen, hf⟩ := DataW.trod_struct ht h
  obtain ⟨j, hj, rfl⟩ := List.getElem_of_mem hv
  have h1 := List.all_eq_true.1 hcov j (by rw [List.mem_range]; omega)
  rw [Array.any_eq_true] at h1
  obtain ⟨i, hi, h2⟩ := h1
  simp only [Bool.and_eq_true, decide_eq_true_eq] at h2
  have h3 := hf i fs[i] (by simp [hi])
  rw [List.getElem?_eq_getElem (by omega)] at h3
  have h4 := Array.all_eq_true.1 hty i hi
  have h5 := hts fs[i].type (by simpa using h4) _ _ _ h3
  refine h5 _ ?_
  rw [List.mem_iff_getElem?]
  refine ⟨j - fs[i].offset, ?_⟩
  rw [List.getElem?_take, if_pos (by omega), List.getElem?_drop, show fs[i].offset + (j - fs[i].offset) = j from by omega, List.getElem?_eq_getElem hj]

theorem ones40 : Ones enc W 40 := ones_struct [22, 3] Try.underlying40 (by kernel_rfl) (by kernel_rfl) (by simp; exact ⟨ones_int Try.underlying22, ones_int Try.underlying3⟩)
theorem ones42 : Ones enc W 42 := ones_struct [22, 3] Try.underlying42 (by kernel_rfl) (by kernel_rfl) (by simp; exact ⟨ones_int Try.underlying22, ones_int Try.underlying3⟩)
theorem ones24 : Ones enc W 24 := ones_struct [22, 3, 4, 9] Try.underlying24 (by kernel_rfl) (by kernel_rfl) (by simp; exact ⟨ones_int Try.underlying22, ones_int Try.underlying3, ones_bool Try.underlying4, ones_string Try.underlying9⟩)
theorem ones44 : Ones enc W 44 := ones_struct [22, 3, 4, 9, 42] Try.underlying44 (by kernel_rfl) (by kernel_rfl) (by simp; exact ⟨ones_int Try.underlying22, ones_int Try.underlying3, ones_bool Try.underlying4, ones_string Try.underlying9, ones42⟩)
theorem ones46 : Ones enc W 46 := ones_struct [9, 42] Try.underlying46 (by kernel_rfl) (by kernel_rfl) (by simp; exact ⟨ones_string Try.underlying9, ones42⟩)
theorem ones48 : Ones enc W 48 := ones_struct [3, 4, 42] Try.underlying48 (by kernel_rfl) (by kernel_rfl) (by simp; exact ⟨ones_int Try.underlying3, ones_bool Try.underlying4, ones42⟩)
theorem ones50 : Ones enc W 50 := ones_struct [3, 4, 9, 40, 24, 44, 46, 42, 48] Try.underlying50 (by kernel_rfl) (by kernel_rfl)
  (by simp; exact ⟨ones_int Try.underlying3, ones_bool Try.underlying4, ones_string Try.underlying9, ones40, ones24, ones44, ones46, ones42, ones48⟩)
theorem cells50 : Try.prog.cellsOf 50 = 45 := by kernel_rfl
theorem take_one {cs : List Value} {o : Nat} {v : Value} (h : (cs.drop o).take 1 = [v]) : cs[o]? = some v := by
  have := congrArg (fun l : List Value => l[0]?) h
  simpa [List.getElem?_take, List.getElem?_drop] using this

/-- What a statement takes of a step: its kind, its number, its packet. -/
structure Stp where
  kind : Int
  num : Int
  pack : Pk
/-- A step's cells. -/
structure StpCells (cs : List Value) (s : Stp) : Prop where
  len : cs.length = 45
  one : ∀ v ∈ cs, v.oneCell' = true
  c0 : cs[0]? = some (.int .i64 s.kind)
  c1 : cs[1]? = some (.int .i64 s.num)
  c7 : (cs.drop 7).take 9 = pcl s.pack
  k1 : -9223372036854775808 ≤ s.kind
  k2 : s.kind ≤ 9223372036854775807
  n1 : -9223372036854775808 ≤ s.num
  n2 : s.num ≤ 9223372036854775807
  fits : Fits s.pack
/-- The steps of a slice lie in memory. -/
def StepsAt (w : World) (b off len : Nat) (C : Nat → List Value) (S : Nat → Stp) : Prop := ∀ i, i < len → w.rangeAt b (off + i * 45) (C i) ∧ StpCells (C i) (S i)

/-- One step's cells. -/
theorem step_cells {n : Nat} {cs : List Value} {y : DataW H × List MemPlace} (h : DataW.trod enc Try.prog W 0 (fun _ => true) true n 50 cs = some y) : ∃ s, StpCells cs s := by
  obtain ⟨xs, m, _, _, hl, hlen, hf⟩ := DataW.trod_struct Try.underlying50 h
  have hlen : xs.length = 12 := hlen
  have g : ∀ i, i < 12 → ∃ y, xs[i]? = some y := fun i hi => ⟨xs[i]'(by omega), List.getElem?_eq_getElem (by omega)⟩
  obtain ⟨y0, e0⟩ := g 0 (by omega)
  obtain ⟨y1, e1⟩ := g 1 (by omega)
  obtain ⟨y6, e6⟩ := g 6 (by omega)
  have f0 : DataW.trod enc Try.prog W 0 (fun _ => true) true m 3 ((cs.drop 0).take (Try.prog.cellsOf 3)) = some y0 := (hf 0 _ rfl).trans e0
  have f1 : DataW.trod enc Try.prog W 0 (fun _ => true) true m 3 ((cs.drop 1).take (Try.prog.cellsOf 3)) = some y1 := (hf 1 _ rfl).trans e1
  have f6 : DataW.trod enc Try.prog W 0 (fun _ => true) true m 24 ((cs.drop 7).take (Try.prog.cellsOf 24)) = some y6 := (hf 6 _ rfl).trans e6
  clear hf
  obtain ⟨k, hk, _, wk⟩ := DataW.trod_int Try.underlying3 f0
  obtain ⟨a, ha, _, wa⟩ := DataW.trod_int Try.underlying3 f1
  obtain ⟨p, hp, fp⟩ := open_pcl f6
  obtain ⟨lk, uk⟩ := bounds_i64 wk
  obtain ⟨la, ua⟩ := bounds_i64 wa
  rw [cells3] at hk ha
  rw [cells24] at hp
  exact ⟨⟨k, a, p⟩, by rw [hl]; exact cells50, ones50 _ _ _ h, take_one hk, take_one ha, hp, lk, uk, la, ua, fp⟩

/-- A list of steps that is handed in. -/
theorem open_steps {b0 : Nat} {v : Value} {d : DataW H} {p : List MemPlace} (hv : Value.okWide Try.prog W .any b0 31 v) (h : DataW.Trod enc Try.prog W 0 (fun _ => true) true 31 v d p) :
    ∃ (o : Option Addr) (b off len cap : Nat) (C : Nat → List Value) (S : Nat → Stp), v = .slice o len cap ∧ (0 < len → o = some ⟨b, off, none⟩ ∧ b < W.heap.size) ∧ StepsAt W b off len C S ∧ len ≤ maxLen := by
  obtain ⟨o, len, cap, rfl⟩ := okWide_slice Try.underlying31 hv
  obtain ⟨fuel, hf⟩ := h
  have hf : DataW.trod enc Try.prog W 0 (fun _ => true) true fuel 31 [.slice o len cap] = some (d, p) := hf
  rcases open_slice Try.underlying31 hf with ⟨h0, _⟩ | ⟨a, len', cap', m, n, D, Pl, h0, _, hlc, hcm, hm, _, hx⟩
  · simp at h0
    obtain ⟨rfl, rfl, rfl⟩ := h0
    exact ⟨none, 0, 0, 0, 0, fun _ => [], fun _ => ⟨0, 0, pz⟩, rfl, by omega, fun i hi => by omega, by unfold maxLen; omega⟩
  · simp at h0
    obtain ⟨rfl, rfl, rfl⟩ := h0
    have hm : m = cap := by simpa using hm
    subst hm
    rw [cells50] at hx
    obtain ⟨C, hC⟩ := choose_lt (α := List Value) (p := fun i cs => W.cells? 0 (a.add (i * 45)) 45 = some cs ∧ ∃ s, StpCells cs s) (fun i hi => by
      obtain ⟨cs, h1, h2⟩ := hx i hi
      exact ⟨cs, h1, step_cells h2⟩)
    haveI : Inhabited Stp := ⟨⟨0, 0, pz⟩⟩
    obtain ⟨S, hS⟩ := choose_lt (α := Stp) (p := fun i s => StpCells (C i) s) (fun i hi => (hC i hi).2)
    refine ⟨some a, a.block, a.off, len, m, C, S, rfl, fun hp => ?_, fun i hi => ⟨?_, hS i (by omega)⟩, by omega⟩
    · obtain ⟨h1, s, h2⟩ := hC 0 (by omega)
      obtain ⟨_, hl, hc⟩ := World.cells?_some h1
      have hc0 := hc 0 (by omega)
      have e : (a.add (0 * 45)).add 0 = a := by simp [Addr.add]
      rw [e, List.getElem?_eq_getElem (by omega)] at hc0
      exact ⟨congrArg some (plain_of_cell hc0), World.block_lt_of_cell? _ _ hc0⟩
    · obtain ⟨h1, s, h2⟩ := hC i (by omega)
      obtain ⟨_, hl, hc⟩ := World.cells?_some h1
      obtain ⟨h01, _⟩ := hC 0 (by omega)
      obtain ⟨_, hl0, hc0⟩ := World.cells?_some h01
      have hp : a = ⟨a.block, a.off, none⟩ := by
        have := hc0 0 (by omega)
        have e : (a.add (0 * 45)).add 0 = a := by simp [Addr.add]
        rw [e, List.getElem?_eq_getElem (by omega)] at this
        exact plain_of_cell this
      intro j v hv
      have hj : j < 45 := by
        have := (List.getElem?_eq_some_iff.1 hv).1
        omega
      have := hc j hj
      rw [hp, Addr.add_mid, Addr.add_mid, hv] at this
      exact this

/-- A list of numbers that is handed in. -/
theorem open_nums {b0 : Nat} {v : Value} {d : DataW H} {p : List MemPlace} (hv : Value.okWide Try.prog W .any b0 56 v) (h : DataW.Trod enc Try.prog W 0 (fun _ => true) true 56 v d p) :
    ∃ (o : Option Addr) (b off len cap : Nat) (Z : Nat → Int), v = .slice o len cap ∧ (0 < len → o = some ⟨b, off, none⟩ ∧ b < W.heap.size) ∧ (∀ i, i < len → W.cell? ⟨b, off + i, none⟩ = some (.int .i64 (Z i)) ∧ -9223372036854775808 ≤ Z i ∧ Z i ≤ 9223372036854775807) ∧ len ≤ maxLen := by
  obtain ⟨o, len, cap, rfl⟩ := okWide_slice Try.underlying56 hv
  obtain ⟨fuel, hf⟩ := h
  have hf : DataW.trod enc Try.prog W 0 (fun _ => true) true fuel 56 [.slice o len cap] = some (d, p) := hf
  rcases open_ints Try.underlying56 Try.underlying3 cells3 hf with ⟨h0, _⟩ | ⟨a, len', cap', zs, h0, _, hlc, hcm, hzl, _, hx, hw⟩
  · simp at h0
    obtain ⟨rfl, rfl, rfl⟩ := h0
    exact ⟨none, 0, 0, 0, 0, fun _ => 0, rfl, by omega, fun i hi => by omega, by unfold maxLen; omega⟩
  · simp at h0
    obtain ⟨rfl, rfl, rfl⟩ := h0
    have hzl : zs.length = cap := by simpa using hzl
    have hp : 0 < len → a = ⟨a.block, a.off, none⟩ ∧ a.block < W.heap.size := fun hp => by
      have := hx 0 (by omega)
      rw [show a.add 0 = a from by simp [Addr.add]] at this
      exact ⟨plain_of_cell this, World.block_lt_of_cell? _ _ this⟩
    refine ⟨some a, a.block, a.off, len, cap, fun i => zs.getD i 0, rfl, fun h => ⟨congrArg some (hp h).1, (hp h).2⟩, fun i hi => ?_, by omega⟩
    have h1 := hx i (by omega)
    have hm : zs.getD i 0 ∈ zs := by
      rw [List.getD_eq_getElem?_getD, List.getElem?_eq_getElem (by omega), Option.getD_some]; exact List.getElem_mem _
    obtain ⟨l1, u1⟩ := bounds_i64 (hw _ hm)
    rw [(hp (by omega)).1, Addr.add_mid] at h1
    exact ⟨h1, l1, u1⟩
end
end Go.Proofs.Ytfnmcnbiahfnfaa
