/-
  What is handed in, opened: a list of steps (kinds, numbers, texts, segments, ends).
-/
import Derived.Test.YtnhcjefbiihfjaaOe
import Derived.WalkKit
import Derived.ProofKit
import Derived.OpenShut
import Derived.ShutString
import Derived.SizedLaws
import Derived.Below
import Derived.Carry
import Derived.Lib.SmallJoins
import Derived.Deep.Slices
import Derived.Deep.MidRow
import Derived.Deep.WholeRow
import Derived.Laws.NewBlocks
namespace Go.Proofs.Ytnhcjefbiihfjaa
open Go.RowKit Go.Deep Go.ChangeShapes Go.WideShapes Go.ChangeAt Go.Joins
open Tc (Sg gchk gv gc)
set_option linter.unusedVariables false

theorem plain_of_cell {w : World} {a : Addr} {v : Value} (h : w.cell? a = some v) : a = ⟨a.block, a.off, none⟩ := by
  obtain ⟨b, o, sp⟩ := a
  cases sp with
  | none => rfl
  | some s =>
    exfalso
    unfold World.cell? at h
    split at h <;> simp at h

section
variable {H : Type} {enc : TypeId × Value → H} {W : World}
/-- Of what is read at this type every cell is one. -/
def Ones (enc : TypeId × Value → H) (W : World) (t : TypeId) : Prop := ∀ n ds y, DataW.trod enc Try.prog W 0 (fun _ => true) true n t ds = some y → ∀ v ∈ ds, v.oneCell' = true
theorem ones_int {t : TypeId} {k : IntKind} (ht : Try.prog.underlying t = some (.int k)) : Ones enc W t := fun n ds y h v hv => by
  obtain ⟨m, rfl, _⟩ := DataW.trod_int ht h
  simp at hv; subst hv; rfl
theorem ones_bool {t : TypeId} (ht : Try.prog.underlying t = some .bool) : Ones enc W t := fun n ds y h v hv => by
  obtain ⟨m, rfl, _⟩ := DataW.trod_bool ht h
  simp at hv; subst hv; rfl
theorem ones_string {t : TypeId} (ht : Try.prog.underlying t = some .string) : Ones enc W t := fun n ds y h v hv => by
  obtain ⟨m, rfl, _⟩ := DataW.trod_string ht h
  simp at hv; subst hv; rfl
theorem ones_struct {t : TypeId} {fs : Array Field} (ts : List TypeId) (ht : Try.prog.underlying t = some (.struct fs))
    (hcov : ((List.range (Try.prog.cellsOf t)).all fun j => fs.any fun f => decide (f.offset ≤ j) && decide (j < f.offset + Try.prog.cellsOf f.type)) = true)
    (hty : (fs.all fun f => ts.contains f.type) = true) (hts : ∀ s ∈ ts, Ones enc W s) : Ones enc W t := fun n ds y h v hv => by
  obtain ⟨xs, m, _, _, hl, hlen, hf⟩ := DataW.trod_struct ht h
  obtain ⟨j, hj, rfl⟩ := List.getElem_of_mem hv
  have h1 := List.all_eq_true.1 hcov j (by rw [List.mem_range]; omega)
  rw [Array.any_eq_true] at h1
  obtain ⟨i, hi, h2⟩ := h1
  simp only [Bool.and_eq_true, decide_eq_true_eq] at h2
  have h3 := hf i fs[i] (by simp [hi])
  rw [List.getElem?_eq_getElem (by omega)] at h3
  have h4 := Array.all_eq_true.1 hty i hi
  have h5 := hts fs[i].type (by simpa using h4) _ _ _ h3
  refine h5 _ ?_
  rw [List.mem_iff_getElem?]
  refine ⟨j - fs[i].offset, ?_⟩
  rw [List.getElem?_take, if_pos (by omega), List.getElem?_drop, show fs[i].offset + (j - fs[i].offset) = j from by omega, List.getElem?_eq_getElem hj]

theorem ones_int' : Ones enc W 3 := ones_int Try.underlying3
theorem ones_bool' : Ones enc W 4 := ones_bool Try.underlying4
theorem ones_str' : Ones enc W 9 := ones_string Try.underlying9
theorem ones_u32' : Ones enc W 22 := ones_int Try.underlying22
theorem ones_pfx : Ones enc W 31 := ones_struct [22, 3] Try.underlying31 (by kernel_rfl) (by kernel_rfl) (by simp; exact ⟨ones_u32', ones_int'⟩)
theorem ones_pkt : Ones enc W 33 := ones_struct [22, 3, 4, 9] Try.underlying33 (by kernel_rfl) (by kernel_rfl) (by simp; exact ⟨ones_u32', ones_int', ones_bool', ones_str'⟩)
theorem ones_end : Ones enc W 24 := ones_struct [22, 3] Try.underlying24 (by kernel_rfl) (by kernel_rfl) (by simp; exact ⟨ones_u32', ones_int'⟩)
theorem ones_seg : Ones enc W 35 := ones_struct [24, 22, 4, 3, 9] Try.underlying35 (by kernel_rfl) (by kernel_rfl) (by simp; exact ⟨ones_end, ones_u32', ones_bool', ones_int', ones_str'⟩)
theorem ones_gram : Ones enc W 37 := ones_struct [24, 9] Try.underlying37 (by kernel_rfl) (by kernel_rfl) (by simp; exact ⟨ones_end, ones_str'⟩)
theorem ones_bnd : Ones enc W 39 := ones_struct [3, 24, 4] Try.underlying39 (by kernel_rfl) (by kernel_rfl) (by simp; exact ⟨ones_int', ones_end, ones_bool'⟩)
theorem ones_step : Ones enc W 41 := ones_struct [3, 4, 9, 31, 33, 35, 37, 24, 39] Try.underlying41 (by kernel_rfl) (by kernel_rfl) (by simp; exact ⟨ones_int', ones_bool', ones_str', ones_pfx, ones_pkt, ones_seg, ones_gram, ones_end, ones_bnd⟩)
theorem cellsBool : Try.prog.cellsOf 4 = 1 := by kernel_rfl
theorem cellsStr : Try.prog.cellsOf 9 = 1 := by kernel_rfl
theorem cellsInt : Try.prog.cellsOf 3 = 1 := by kernel_rfl
theorem cellsStep : Try.prog.cellsOf 41 = 45 := by kernel_rfl
theorem take_one {cs : List Value} {o : Nat} {v : Value} (h : (cs.drop o).take 1 = [v]) : cs[o]? = some v := by
  have := congrArg (fun l : List Value => l[0]?) h
  simpa [List.getElem?_take, List.getElem?_drop] using this

/-- What a statement takes of a step: its kind, its first two numbers, its text. -/
structure Stp where
  kind : Int
  num : Int
  num2 : Int
  on : Bool
  txt : ByteArray
  seg : Sg
/-- A step's cells. -/
structure StpCells (cs : List Value) (s : Stp) : Prop where
  len : cs.length = 45
  one : ∀ v ∈ cs, v.oneCell' = true
  c0 : cs[0]? = some (.int .i64 s.kind)
  c1 : cs[1]? = some (.int .i64 s.num)
  k1 : -9223372036854775808 ≤ s.kind
  k2 : s.kind ≤ 9223372036854775807
  n1 : -9223372036854775808 ≤ s.num
  n2 : s.num ≤ 9223372036854775807
  c2 : cs[2]? = some (.int .i64 s.num2)
  c3 : cs[3]? = some (.bool s.on)
  c4 : cs[4]? = some (.string s.txt)
  p1 : -9223372036854775808 ≤ s.num2
  p2 : s.num2 ≤ 9223372036854775807
  z : s.txt.size ≤ maxLen
  cg : (cs.drop 16).take 13 = gcl s.seg
  fg : Fits s.seg
/-- The steps of a slice lie in memory. -/
def StepsAt (w : World) (b off len : Nat) (C : Nat → List Value) (S : Nat → Stp) : Prop := ∀ i, i < len → w.rangeAt b (off + i * 45) (C i) ∧ StpCells (C i) (S i)

/-- One step's cells. -/
theorem step_cells {n : Nat} {cs : List Value} {y : DataW H × List MemPlace} (h : DataW.trod enc Try.prog W 0 (fun _ => true) true n 41 cs = some y) : ∃ s, StpCells cs s := by
  obtain ⟨xs, m, _, _, hl, hlen, hf⟩ := DataW.trod_struct Try.underlying41 h
  have hlen : xs.length = 12 := hlen
  have g : ∀ i, i < 12 → ∃ y, xs[i]? = some y := fun i hi => ⟨xs[i]'(by omega), List.getElem?_eq_getElem (by omega)⟩
  obtain ⟨y0, e0⟩ := g 0 (by omega)
  obtain ⟨y1, e1⟩ := g 1 (by omega)
  obtain ⟨y2, e2⟩ := g 2 (by omega)
  obtain ⟨y3, e3⟩ := g 3 (by omega)
  obtain ⟨y4, e4⟩ := g 4 (by omega)
  have f0 : DataW.trod enc Try.prog W 0 (fun _ => true) true m 3 ((cs.drop 0).take (Try.prog.cellsOf 3)) = some y0 := (hf 0 _ rfl).trans e0
  have f1 : DataW.trod enc Try.prog W 0 (fun _ => true) true m 3 ((cs.drop 1).take (Try.prog.cellsOf 3)) = some y1 := (hf 1 _ rfl).trans e1
  have f2 : DataW.trod enc Try.prog W 0 (fun _ => true) true m 3 ((cs.drop 2).take (Try.prog.cellsOf 3)) = some y2 := (hf 2 _ rfl).trans e2
  have f3 : DataW.trod enc Try.prog W 0 (fun _ => true) true m 4 ((cs.drop 3).take (Try.prog.cellsOf 4)) = some y3 := (hf 3 _ rfl).trans e3
  have f4 : DataW.trod enc Try.prog W 0 (fun _ => true) true m 9 ((cs.drop 4).take (Try.prog.cellsOf 9)) = some y4 := (hf 4 _ rfl).trans e4
  obtain ⟨y7, e7⟩ := g 7 (by omega)
  have f7 : DataW.trod enc Try.prog W 0 (fun _ => true) true m 35 ((cs.drop 16).take (Try.prog.cellsOf 35)) = some y7 := (hf 7 _ rfl).trans e7
  clear hf
  obtain ⟨sg, hsg, fsg⟩ := open_seg f7
  rw [cells_26] at hsg
  obtain ⟨k, hk, _, wk⟩ := DataW.trod_int Try.underlying3 f0
  obtain ⟨a, ha, _, wa⟩ := DataW.trod_int Try.underlying3 f1
  obtain ⟨b, hb, _, wb⟩ := DataW.trod_int Try.underlying3 f2
  obtain ⟨on, ho, _⟩ := DataW.trod_bool Try.underlying4 f3
  obtain ⟨s, hs, _, hz⟩ := DataW.trod_string Try.underlying9 f4
  obtain ⟨lk, uk⟩ := bounds_i64 wk
  obtain ⟨la, ua⟩ := bounds_i64 wa
  obtain ⟨lb, ub⟩ := bounds_i64 wb
  rw [cellsInt] at hk ha hb
  rw [cellsStr] at hs
  rw [cellsBool] at ho
  exact ⟨⟨k, a, b, on, s, sg⟩, by rw [hl]; exact cellsStep, ones_step _ _ _ h, take_one hk, take_one ha, lk, uk, la, ua, take_one hb, take_one ho, take_one hs, lb, ub, hz, hsg, fsg⟩

set_option maxRecDepth 100000 in
theorem open_steps {b0 : Nat} {v : Value} {d : DataW H} {p : List MemPlace} (hv : Value.okWide Try.prog W .any b0 25 v) (h : DataW.Trod enc Try.prog W 0 (fun _ => true) true 25 v d p) :
    ∃ (o : Option Addr) (b off len cap : Nat) (C : Nat → List Value) (S : Nat → Stp), v = .slice o len cap ∧ (0 < len → o = some ⟨b, off, none⟩ ∧ b < W.heap.size) ∧ StepsAt W b off len C S ∧ len ≤ maxLen := by
  obtain ⟨o, len, cap, rfl⟩ := okWide_slice Try.underlying25 hv
  obtain ⟨fuel, hf⟩ := h
  have hf : DataW.trod enc Try.prog W 0 (fun _ => true) true fuel 25 [.slice o len cap] = some (d, p) := hf
  rcases open_slice Try.underlying25 hf with ⟨h0, _⟩ | ⟨a, len', cap', m, n, D, Pl, h0, _, hlc, hcm, hm, _, hx⟩
  · simp at h0
    obtain ⟨rfl, rfl, rfl⟩ := h0
    exact ⟨none, 0, 0, 0, 0, fun _ => [], fun _ => ⟨0, 0, 0, false, ⟨#[]⟩, gz0⟩, rfl, by omega, fun i hi => by omega, by unfold maxLen; omega⟩
  · simp at h0
    obtain ⟨rfl, rfl, rfl⟩ := h0
    have hm : m = cap := by simpa using hm
    subst hm
    rw [cellsStep] at hx
    obtain ⟨C, hC⟩ := choose_lt (α := List Value) (p := fun i cs => W.cells? 0 (a.add (i * 45)) 45 = some cs ∧ ∃ s, StpCells cs s) (fun i hi => by
      obtain ⟨cs, h1, h2⟩ := hx i hi
      exact ⟨cs, h1, step_cells h2⟩)
    haveI : Inhabited Stp := ⟨⟨0, 0, 0, false, ⟨#[]⟩, gz0⟩⟩
    obtain ⟨S, hS⟩ := choose_lt (α := Stp) (p := fun i s => StpCells (C i) s) (fun i hi => (hC i hi).2)
    refine ⟨some a, a.block, a.off, len, m, C, S, rfl, fun hp => ?_, fun i hi => ⟨?_, hS i (by omega)⟩, by omega⟩
    · obtain ⟨h1, s, h2⟩ := hC 0 (by omega)
      obtain ⟨_, hl, hc⟩ := World.cells?_some h1
      have hc0 := hc 0 (by omega)
      have e : (a.add (0 * 45)).add 0 = a := by simp [Addr.add]
      rw [e, List.getElem?_eq_getElem (by omega)] at hc0
      exact ⟨congrArg some (plain_of_cell hc0), World.block_lt_of_cell? _ _ hc0⟩
    · obtain ⟨h1, s, h2⟩ := hC i (by omega)
      obtain ⟨_, hl, hc⟩ := World.cells?_some h1
      obtain ⟨h01, _⟩ := hC 0 (by omega)
      obtain ⟨_, hl0, hc0⟩ := World.cells?_some h01
      have hp : a = ⟨a.block, a.off, none⟩ := by
        have := hc0 0 (by omega)
        have e : (a.add (0 * 45)).add 0 = a := by simp [Addr.add]
        rw [e, List.getElem?_eq_getElem (by omega)] at this
        exact plain_of_cell this
      intro j v hv
      have hj : j < 45 := by
        have := (List.getElem?_eq_some_iff.1 hv).1
        omega
      have := hc j hj
      rw [hp, Addr.add_mid, Addr.add_mid, hv] at this
      exact this

end
theorem infoStep : (Try.prog.info? 41).map (·.size) = some 45 := by kernel_rfl
/-- A whole struct goes into the block that was made last. -/
theorem wpList_store_last {P : Program} {ops : Array Oper} {rest : List Oper} {op : Oper} {a : Act} {w : World} {Q : Exit → Act → World → Prop} (hgd : op.guard = none) (ty : TypeId) (x y : Operand) (ho : op.op = .store ty x y)
    (w0 : World) (c c' : Array Value) (hw : w = w0.alloc (.cells c ty)) (hx : a.eval x = .pointer (some ⟨w0.heap.size, 0, none⟩)) (hy : a.eval y = .agg c') (hi : (P.info? ty).map (·.size) = some c'.size) (hs : c.size = c'.size) (h1 : c'.all (·.oneCell') = true)
    (h : wpList P ops Q rest (a.put op.dst undef) (w0.alloc (.cells c' ty))) : wpList P ops Q (op :: rest) a w :=
  wpList_plain hgd fun K hK => by
    unfold Oper.wp execOp
    simp only [ho, hx, hy, Sem.run_bind]
    rw [hw, run_storeAt_new w0 ty c c' hi hs h1]
    exact hK _ _ h
/-- A block that holds a step. -/
def SB (g : Nat) (cs : List Value) (W : World) : Prop := W.heap[g]? = some (.cells cs.toArray 41 (0, 0))
theorem SB.lt {g : Nat} {cs : List Value} {W : World} (h : SB g cs W) : g < W.heap.size := (Array.getElem?_eq_some_iff.1 h).1
theorem SB.keep {g : Nat} {cs : List Value} {W W' : World} (h : SB g cs W) (hb : Below W.heap.size W W') : SB g cs W' := (hb.block _ h.lt).trans h
theorem SB.range {g : Nat} {cs : List Value} {W : World} (h : SB g cs W) : W.rangeAt g 0 cs := fun j v hv => by
  rw [Joins.cell_of_block h, List.getElem?_toArray]
  simpa using hv
theorem SB.c1 {g : Nat} {cs : List Value} {s : Stp} {W : World} (h : SB g cs W) (hc : StpCells cs s) : W.cell? ⟨g, 1, none⟩ = some (.int .i64 s.num) := by
  rw [Joins.cell_of_block h, List.getElem?_toArray]; exact hc.c1
theorem SB.c2 {g : Nat} {cs : List Value} {s : Stp} {W : World} (h : SB g cs W) (hc : StpCells cs s) : W.cell? ⟨g, 2, none⟩ = some (.int .i64 s.num2) := by
  rw [Joins.cell_of_block h, List.getElem?_toArray]; exact hc.c2
theorem SB.c3 {g : Nat} {cs : List Value} {s : Stp} {W : World} (h : SB g cs W) (hc : StpCells cs s) : W.cell? ⟨g, 3, none⟩ = some (.bool s.on) := by
  rw [Joins.cell_of_block h, List.getElem?_toArray]; exact hc.c3
theorem SB.seg {g : Nat} {cs : List Value} {s : Stp} {W : World} (h : SB g cs W) (hc : StpCells cs s) : W.rangeAt g 16 (gcl s.seg) := fun j v hv => by
  rw [Joins.cell_of_block h, List.getElem?_toArray]
  rw [← hc.cg] at hv
  have hj : j < 13 := by
    have := (List.getElem?_eq_some_iff.1 hv).1
    simp at this; omega
  rw [List.getElem?_take, if_pos hj, List.getElem?_drop] at hv
  exact hv
theorem SB.c4 {g : Nat} {cs : List Value} {s : Stp} {W : World} (h : SB g cs W) (hc : StpCells cs s) : W.cell? ⟨g, 4, none⟩ = some (.string s.txt) := by
  rw [Joins.cell_of_block h, List.getElem?_toArray]; exact hc.c4
/-- What the walk asks of one step of a list that was handed in. -/
structure StepF (W : World) (b o : Nat) (cs : List Value) : Prop where
  rr : W.rangeAt b o cs
  hi : (Try.prog.info? 41).map (·.size) = some cs.length
  hi' : (Try.prog.info? 41).map (·.size) = some cs.toArray.size
  h45 : 45 = cs.toArray.size
  one : cs.toArray.all (·.oneCell') = true
  blk : SB W.heap.size cs (W.alloc (.cells cs.toArray 41))
theorem step_f {w W : World} {b off len k : Nat} {C : Nat → List Value} {S : Nat → Stp} (hS : StepsAt w b off len C S) (hk : k < len) (hb : b < w.heap.size) (be : Below w.heap.size w W) : StepF W b (off + k * 45) (C k) := by
  obtain ⟨h1, h2⟩ := hS k hk
  refine ⟨fun j v hv => ?_, by rw [h2.len]; exact infoStep, by rw [List.size_toArray, h2.len]; exact infoStep, by rw [List.size_toArray, h2.len], all_oneCell_toArray h2.one, heap_alloc_new _ _⟩
  rw [be.cell (p := ⟨b, off + k * 45 + j, none⟩) hb]; exact h1 j v hv
theorem weightsAll_mem {H : Type} {P : Program} {e : TypeId} {n : Nat} {d : DataW H} : ∀ {l : List (DataW H)}, d ∈ l → n ∈ d.weights P e → n ∈ DataW.weightsAll P e l
  | [], hd, _ => absurd hd (by simp)
  | x :: r, hd, hn => by
    simp only [DataW.weightsAll, List.mem_append]
    rcases List.mem_cons.1 hd with rfl | hd
    · exact Or.inl hn
    · exact Or.inr (weightsAll_mem hd hn)
theorem texts_room {H : Type} {enc : TypeId × Value → H} {W : World} {o : Option Addr} {len cap j : Nat} {d : DataW H} {p : List MemPlace} {ts : List TypeId} {ds : List (DataW H)} {b off : Nat} {C : Nat → List Value} {S : Nat → Stp}
    (h : DataW.Trod enc Try.prog W 0 (fun _ => true) true 25 (.slice o len cap) d p)
    (hz : (DataW.weightsEach Try.prog ts ds).all (· ≤ reachBytes) = true) (ht : ts[j]? = some 25) (hd : ds[j]? = some d) (hb : 0 < len → o = some ⟨b, off, none⟩ ∧ b < W.heap.size) (hS : StepsAt W b off len C S) :
    ∀ i, i < len → (S i).txt.size ≤ 140737488355328 := fun i hi => by
  obtain ⟨fuel, hf⟩ := h
  have hf : DataW.trod enc Try.prog W 0 (fun _ => true) true fuel 25 [.slice o len cap] = some (d, p) := hf
  rcases open_slice Try.underlying25 hf with ⟨h0, _⟩ | ⟨a, len', cap', m, n, D, Pl, h0, _, hlc, hcm, hm, hx, hel⟩
  · simp at h0
    obtain ⟨rfl, rfl, rfl⟩ := h0
    omega
  · simp at h0
    obtain ⟨rfl, rfl, rfl⟩ := h0
    obtain ⟨ha, _⟩ := hb (by omega)
    obtain rfl := Option.some.inj ha
    have hm' : i < m := by rw [hm]; simp; omega
    obtain ⟨cs', hc, hr⟩ := hel i hm'
    rw [cellsStep] at hc
    obtain ⟨_, hl, hcell⟩ := World.cells?_some hc
    obtain ⟨h1, h2⟩ := hS i hi
    have h3 := h1 4 _ h2.c4
    have h4 := hcell 4 (by omega)
    rw [Addr.add_mid, Addr.add_mid, h3] at h4
    obtain ⟨xs, n2, _, hxD, hl2, hlen, hfs⟩ := DataW.trod_struct Try.underlying41 hr
    have hlen : xs.length = 12 := hlen
    obtain ⟨y4, e4⟩ : ∃ y, xs[4]? = some y := ⟨xs[4]'(by omega), List.getElem?_eq_getElem (by omega)⟩
    have f4 : DataW.trod enc Try.prog W 0 (fun _ => true) true n2 9 ((cs'.drop 4).take (Try.prog.cellsOf 9)) = some y4 := (hfs 4 _ rfl).trans e4
    obtain ⟨s, hs, hy, _⟩ := DataW.trod_string Try.underlying9 f4
    rw [cellsStr] at hs
    have hs4 := take_one hs
    rw [← h4] at hs4
    obtain rfl : (S i).txt = s := by
      have := Option.some.inj hs4
      injection this
    have hDi : D i = .agg (xs.map (·.1)) := congrArg Prod.fst hxD
    have hx : d = .slice ((List.range len).map D) ((List.range (m - len)).map fun j => D (len + j)) := congrArg Prod.fst hx
    have w4 : (S i).txt.data.toList.length ∈ (D i).weights Try.prog 41 := by
      rw [hDi]
      simp only [DataW.weights, Try.underlying41]
      refine DataW.weights_mem_each (j := 4) (t := 9) (d := .lit (.string (S i).txt.data.toList)) rfl ?_ _ (by simp [DataW.weights])
      rw [List.getElem?_map, e4, hy]; rfl
    have hw := List.all_eq_true.1 hz _ (DataW.weights_mem_each ht hd (S i).txt.data.toList.length (by
      rw [hx]
      simp only [DataW.weights, Try.underlying25, List.mem_cons, List.mem_append]
      exact Or.inr (Or.inl (weightsAll_mem (List.mem_map.2 ⟨i, List.mem_range.2 hi, rfl⟩) w4))))
    have h5 := reachBytes_lt
    have h6 : (S i).txt.data.toList.length ≤ reachBytes := of_decide_eq_true hw
    have h7 : (S i).txt.size = (S i).txt.data.toList.length := Array.length_toList.symm
    omega
theorem steps_room_at {H : Type} {enc : TypeId × Value → H} {W : World} {o : Option Addr} {len cap j : Nat} {d : DataW H} {p : List MemPlace} {ts : List TypeId} {ds : List (DataW H)} (h : DataW.Trod enc Try.prog W 0 (fun _ => true) true 25 (.slice o len cap) d p)
    (hz : (DataW.weightsEach Try.prog ts ds).all (· ≤ reachBytes) = true) (ht : ts[j]? = some 25) (hd : ds[j]? = some d) : len * 300 ≤ 140737488355328 := by
  obtain ⟨fuel, hf⟩ := h
  have hf : DataW.trod enc Try.prog W 0 (fun _ => true) true fuel 25 [.slice o len cap] = some (d, p) := hf
  rcases open_slice Try.underlying25 hf with ⟨h0, _⟩ | ⟨a, len', cap', m, n, D, Pl, h0, _, hlc, hcm, hm, hx, _⟩
  · simp at h0
    obtain ⟨rfl, rfl, rfl⟩ := h0
    omega
  · simp at h0
    obtain ⟨rfl, rfl, rfl⟩ := h0
    have hx : d = .slice ((List.range len).map D) ((List.range (m - len)).map fun j => D (len + j)) := congrArg Prod.fst hx
    subst hx
    have h1 := sized_slice hz ht hd Try.underlying25
    rw [List.length_map, List.length_range] at h1
    have h2 : 300 ≤ Try.prog.bytesOf 41 := of_decide_eq_true (by kernel_rfl)
    have h3 := reachBytes_lt
    have h4 := Nat.mul_le_mul (Nat.le_add_right len ((List.range (m - len)).map fun j => D (len + j)).length) h2
    omega
end Go.Proofs.Ytnhcjefbiihfjaa
