/-
  Package outq: the queue in memory and as plain data; contracts of its functions (texts of an earlier round, put over).
-/
import Derived.Test.YtnhcjefbiihfjaaBa
namespace Go.Proofs.Ytnhcjefbiihfjaa.Oq
open Go.RowKit
set_option linter.unusedVariables false
set_option linter.unusedSimpArgs false

/-! Qq -/

/-- A block that holds a queue: its bytes K, the place behind the last one, whether it is closed, Una, Cur, Sent. -/
structure QR (B b : Nat) (v : Value) (K : ByteArray) (l : Int) (sh : Bool) (u c s : Int) (W : World) : Prop where
  blk : W.heap[b]? = some (.cells #[v, .int .i64 l, .bool sh, .int .i64 u, .int .i64 c, .int .i64 s] 97 (0, 0))
  own : W.ownsRow B 5 1 v K.size (Lib.strCells K)
  lo : B ≤ b
section
variable {B b : Nat} {v : Value} {K : ByteArray} {l : Int} {sh : Bool} {u c s : Int} {W W' : World}
/-- A block of another type is not the row. -/
theorem QR.row_ne (h : QR B b v K l sh u c s W) {k : Nat} {t : TypeId} {cs : Array Value} (hk : W.heap[k]? = some (.cells cs t (0, 0))) (ht : t ≠ 5) : v.ownBlock ≠ some k := fun e => by
  obtain ⟨cur, hc⟩ := own_block h.own e
  rw [hk] at hc
  injection hc with hc
  injection hc with _ hc
  exact ht hc
theorem QR.not_mem (h : QR B b v K l sh u c s W) {k : Nat} {t : TypeId} {cs : Array Value} (hk : W.heap[k]? = some (.cells cs t (0, 0))) (ht : t ≠ 5) (hb : k ≠ b) : k ∉ b :: rw' v := fun hm => by
  rcases List.mem_cons.1 hm with e | e
  · exact hb e
  · unfold rw' at e
    exact h.row_ne hk ht (by simpa using e)
theorem QR.lt (h : QR B b v K l sh u c s W) : b < W.heap.size := lt_of_heap h.blk
theorem QR.base (h : QR B b v K l sh u c s W) : B ≤ W.heap.size := Nat.le_trans h.lo (Nat.le_of_lt h.lt)
theorem QR.shape (h : QR B b v K l sh u c s W) : ∃ o cap, v = .slice o K.size cap := by
  rcases h.own.2 with ⟨rfl, h0⟩ | ⟨g, cap, cur, rfl, _⟩
  · exact ⟨none, 0, by rw [h0]⟩
  · exact ⟨_, cap, rfl⟩
theorem QR.kp {bs : List Nat} (h : QR B b v K l sh u c s W) (hk : Kp bs W W') (hn : b ∉ bs) (hr : ∀ g, v.ownBlock = some g → g ∉ bs) : QR B b v K l sh u c s W' := by
  refine ⟨(hk.block b h.lt hn).trans h.blk, ⟨h.own.1, ?_⟩, h.lo⟩
  rcases h.own.2 with h2 | ⟨g, cap, cur, hv, hg, hh, r⟩
  · exact Or.inl h2
  · exact Or.inr ⟨g, cap, cur, hv, hg, (hk.block g (lt_of_heap hh) (hr g (by rw [hv]; rfl))).trans hh, r⟩
theorem QR.keep (h : QR B b v K l sh u c s W) (hb : Below W.heap.size W W') : QR B b v K l sh u c s W' := h.kp (bs := []) (Kp.ofBelow hb) (by simp) (by simp)
theorem QR.drewN (h : QR B b v K l sh u c s W) (n : Nat) : QR B b v K l sh u c s (W.drewN n) := h.keep (below_drewN W n)
theorem QR.drew (h : QR B b v K l sh u c s W) : QR B b v K l sh u c s W.drew := h.keep ⟨rfl, rfl, rfl, Nat.le_refl _, fun _ _ => rfl⟩
theorem QR.alloc (h : QR B b v K l sh u c s W) (o : Obj) : QR B b v K l sh u c s (W.alloc o) := h.keep ((Below.refl _ _).alloc (Nat.le_refl _) _)
theorem QR.c0 (h : QR B b v K l sh u c s W) : W.cell? ⟨b, 0, none⟩ = some v := Joins.cell_of_block h.blk 0
theorem QR.c1 (h : QR B b v K l sh u c s W) : W.cell? ⟨b, 1, none⟩ = some (.int .i64 l) := Joins.cell_of_block h.blk 1
theorem QR.c2 (h : QR B b v K l sh u c s W) : W.cell? ⟨b, 2, none⟩ = some (.bool sh) := Joins.cell_of_block h.blk 2
theorem QR.c3 (h : QR B b v K l sh u c s W) : W.cell? ⟨b, 3, none⟩ = some (.int .i64 u) := Joins.cell_of_block h.blk 3
theorem QR.c4 (h : QR B b v K l sh u c s W) : W.cell? ⟨b, 4, none⟩ = some (.int .i64 c) := Joins.cell_of_block h.blk 4
theorem QR.c5 (h : QR B b v K l sh u c s W) : W.cell? ⟨b, 5, none⟩ = some (.int .i64 s) := Joins.cell_of_block h.blk 5
theorem QR.free (h : QR B b v K l sh u c s W) (i : Nat) : W.frozen? ⟨b, i, none⟩ = false := Joins.unfrozen_of_block h.blk i
theorem QR.own_set (h : QR B b v K l sh u c s W) (i : Nat) (x : Value) : (W.setCell ⟨b, i, none⟩ x).ownsRow B 5 1 v K.size (Lib.strCells K) := by
  refine ⟨h.own.1, ?_⟩
  rcases h.own.2 with h2 | ⟨g, cap, cur, hv, hg, hh, r⟩
  · exact Or.inl h2
  · refine Or.inr ⟨g, cap, cur, hv, hg, (Below.heap_setCell _ _ _ _ ?_).trans hh, r⟩
    intro e
    exact h.row_ne h.blk (by decide) (by rw [hv]; show some g = some b; rw [e])
theorem QR.set1 (h : QR B b v K l sh u c s W) (x : Int) : QR B b v K x sh u c s (W.setCell ⟨b, 1, none⟩ (.int .i64 x)) := ⟨Joins.block_setCell h.blk _, h.own_set 1 _, h.lo⟩
theorem QR.set2 (h : QR B b v K l sh u c s W) (x : Bool) : QR B b v K l x u c s (W.setCell ⟨b, 2, none⟩ (.bool x)) := ⟨Joins.block_setCell h.blk _, h.own_set 2 _, h.lo⟩
theorem QR.set3 (h : QR B b v K l sh u c s W) (x : Int) : QR B b v K l sh x c s (W.setCell ⟨b, 3, none⟩ (.int .i64 x)) := ⟨Joins.block_setCell h.blk _, h.own_set 3 _, h.lo⟩
theorem QR.set4 (h : QR B b v K l sh u c s W) (x : Int) : QR B b v K l sh u x s (W.setCell ⟨b, 4, none⟩ (.int .i64 x)) := ⟨Joins.block_setCell h.blk _, h.own_set 4 _, h.lo⟩
theorem QR.set5 (h : QR B b v K l sh u c s W) (x : Int) : QR B b v K l sh u c x (W.setCell ⟨b, 5, none⟩ (.int .i64 x)) := ⟨Joins.block_setCell h.blk _, h.own_set 5 _, h.lo⟩
/-- The bytes are stored anew. -/
theorem QR.put (h : QR B b v K l sh u c s W) {row : Option Nat} {v' : Value} {K' : ByteArray} (hg : W.grownBy W' row) (hr : row ≠ some b) (hown : W'.ownsRow B 5 1 v' K'.size (Lib.strCells K')) :
    QR B b v' K' l sh u c s (W'.setCell ⟨b, 0, none⟩ v') := by
  have hb : W'.heap[b]? = some (.cells #[v, .int .i64 l, .bool sh, .int .i64 u, .int .i64 c, .int .i64 s] 97 (0, 0)) := (hg.block b h.lt (fun e => hr e.symm)).trans h.blk
  refine ⟨Joins.block_setCell hb _, ⟨hown.1, ?_⟩, h.lo⟩
  rcases hown.2 with h2 | ⟨g, cap, cur, hv, hgl, hh, r⟩
  · exact Or.inl h2
  · refine Or.inr ⟨g, cap, cur, hv, hgl, (Below.heap_setCell _ _ _ _ ?_).trans hh, r⟩
    intro e
    have e : g = b := e
    subst e
    rw [hb] at hh
    injection hh with hh
    injection hh with _ hh
    exact absurd hh (by decide)
end

section
variable {b : Nat} {A : ByteArray} {sh : Bool} {u c s : Int} {W W' : World}
end

/-- A piece. -/
structure Pc where
  at' : Int
  syn : Bool
  fin : Bool
  body : ByteArray
abbrev pcl (p : Pc) : List Value := [.int .i64 p.at', .bool p.syn, .bool p.fin, .string p.body]
abbrev pcs (p : Pc) : Array Value := #[.int .i64 p.at', .bool p.syn, .bool p.fin, .string p.body]
abbrev pvv (p : Pc) : Value := .agg (pcs p)
def pc0 : Pc := ⟨0, false, false, ⟨#[]⟩⟩
theorem info46 : (Try.prog.info? 99).map (·.size) = some 4 := by kernel_rfl
theorem pcs_one (p : Pc) : (pcs p).all (·.oneCell') = true := by
  refine all_oneCell_toArray (cs := pcl p) ?_
  intro v hv
  simp only [List.mem_cons, List.not_mem_nil, or_false] at hv
  rcases hv with rfl | rfl | rfl | rfl <;> rfl
/-- A block that holds a piece. -/
def PB (b : Nat) (p : Pc) (W : World) : Prop := W.heap[b]? = some (.cells (pcs p) 99 (0, 0))
section
variable {b : Nat} {p : Pc} {W W' : World}
theorem PB.new (w : World) (p : Pc) : PB w.heap.size p (w.alloc (.cells (pcs p) 99)) := heap_alloc_new _ _
theorem PB.lt (h : PB b p W) : b < W.heap.size := lt_of_heap h
theorem PB.keep (h : PB b p W) (hb : Below W.heap.size W W') : PB b p W' := (hb.block _ h.lt).trans h
theorem PB.kp {bs : List Nat} (h : PB b p W) (hk : Kp bs W W') (hn : b ∉ bs) : PB b p W' := (hk.block b h.lt hn).trans h
theorem PB.alloc (h : PB b p W) (o : Obj) : PB b p (W.alloc o) := h.keep ((Below.refl _ _).alloc (Nat.le_refl _) _)
theorem PB.drew (h : PB b p W) : PB b p W.drew := h
theorem PB.drewN (h : PB b p W) (n : Nat) : PB b p (W.drewN n) := h
theorem PB.c0 (h : PB b p W) : W.cell? ⟨b, 0, none⟩ = some (.int .i64 p.at') := Joins.cell_of_block h 0
theorem PB.c1 (h : PB b p W) : W.cell? ⟨b, 1, none⟩ = some (.bool p.syn) := Joins.cell_of_block h 1
theorem PB.c2 (h : PB b p W) : W.cell? ⟨b, 2, none⟩ = some (.bool p.fin) := Joins.cell_of_block h 2
theorem PB.c3 (h : PB b p W) : W.cell? ⟨b, 3, none⟩ = some (.string p.body) := Joins.cell_of_block h 3
theorem PB.free (h : PB b p W) (i : Nat) : W.frozen? ⟨b, i, none⟩ = false := Joins.unfrozen_of_block h i
theorem PB.there (h : PB b p W) : W.there b 0 4 := fun j hj => by
  rw [Nat.zero_add, Joins.cell_of_block h j]
  exact ⟨by rw [Array.getElem?_eq_getElem (show j < (pcs p).size from hj)]; rfl, Joins.unfrozen_of_block h j⟩
theorem PB.range (h : PB b p W) : W.rangeAt b 0 (pcl p) := World.rangeAt_of_block h 0 4
theorem PB.set1 {C : Array Value} (h : W.heap[b]? = some (.cells C 99 (0, 0))) (i : Nat) (v : Value) : (W.setCell ⟨b, i, none⟩ v).heap[b]? = some (.cells (C.setIfInBounds i v) 99 (0, 0)) := Joins.block_setCell (i := i) h v
theorem PB.put (h : PB b p W) (q : Pc) : PB b q (W.setCells b 0 (pcl q)) := by
  have h1 := PB.set1 h 0 (.int .i64 q.at')
  have h2 := PB.set1 h1 1 (.bool q.syn)
  have h3 := PB.set1 h2 2 (.bool q.fin)
  exact PB.set1 h3 3 (.string q.body)
/-- What is told out of a cell of the call's own. -/
theorem told (W : World) (b : Nat) (p q : Pc) (h : PB b p W) : (loadVar 99 ⟨b, 0, none⟩).run Try.prog (W.setCells b 0 (pcl q)) = .ok (pvv q) (W.setCells b 0 (pcl q)) :=
  run_loadVar_mid _ _ _ 99 (pcl q) _ (World.rangeAt_setCells_same _ _ _ _ h.there) Try.underlying99 rfl info46
end
theorem below_setCells {B b : Nat} {a W : World} (hb : Below B a W) (hB : B ≤ b) (vs : List Value) (o : Nat) : Below B a (W.setCells b o vs) := by
  induction vs generalizing W o with
  | nil => exact hb
  | cons v r ih => exact ih (hb.setCell (p := ⟨b, o, none⟩) hB v) (o + 1)


/-- append of a text: the row is the old one, or new. -/
theorem append_nw {P : Program} (w : World) (t u ty : TypeId) (base : Nat) (e : TypeId) (i : TypeInfo) (ht : P.underlying t = some (.slice e)) (hu : P.underlying u = some .string) (hi : P.info? e = some i) (hz : i.zero = some (.int .u8 0)) (hsize : i.size = 1) (hby : i.bytes = 1)
    (v : Value) (n : Nat) (xs : List Value) (hown : w.ownsRow base e 1 v n xs) (s : ByteArray)
    (h63 : n + s.size ≤ maxLen) (hbytes : n + s.size ≤ 140737488355328) (hbase : base ≤ w.heap.size) :
    ∃ v' w', (Builtin.append_ #[t, u] ty #[v, .string s]).run P w = .ok v' w' ∧ w'.ownsRow base e 1 v' (n + s.size) (xs ++ Lib.strCells s) ∧ w.grownBy w' v.ownBlock ∧ Nw w v v' := by
  obtain ⟨v', w', hr, h2, h3, _⟩ := Lib.run_append_own_string (P := P) w base t u ty e i ht hu hi hz hsize hby v n xs hown s h63 hbytes hbase
  refine ⟨v', w', hr, h2, h3, ?_⟩
  have hsmall : n + s.size ≤ 9223372036854775807 := by simp only [maxLen] at h63; omega
  have hxl : xs.length = n := by simpa using hown.1
  rcases hown.2 with ⟨rfl, rfl⟩ | ⟨g, cap, cur, rfl, hbg, hg, hnc, hcm, hcs, htake⟩
  · have hx : xs = [] := List.eq_nil_of_length_eq_zero hxl
    subst hx
    obtain ⟨v2, w2, hr2, h22, _, _⟩ := Lib.run_append_own_string (P := P) w w.heap.size t u ty e i ht hu hi hz hsize hby _ 0 [] (World.ownsRow_nil w w.heap.size e 1) s h63 hbytes (Nat.le_refl _)
    rw [hr] at hr2
    simp only [Result.ok.injEq] at hr2
    obtain ⟨rfl, rfl⟩ := hr2
    intro g hg
    right
    rcases h22.2 with ⟨rfl, _⟩ | ⟨g', cap, cur, rfl, hbg, _⟩
    · simp [Value.ownBlock] at hg
    · simp [Value.ownBlock] at hg
      omega
  · by_cases hroom : n + s.size ≤ cap
    · have hcs' : cur.size = cap := by simpa using hcs
      have hr2 := Lib.run_append_room_string (P := P) w t u ty e i ht hu hi hsize g n cap cur hg s hroom (by omega)
      rw [hr] at hr2
      simp only [Result.ok.injEq] at hr2
      obtain ⟨rfl, rfl⟩ := hr2
      exact fun g' hg' => Or.inl (by simpa [Value.ownBlock] using hg')
    · have holds : ∀ j u, xs[j]? = some u → w.cell? ((⟨g, 0, none⟩ : Addr).add j) = some u := hown.cells (g := g) rfl
      have hr2 := Lib.run_append_grow_string (P := P) w t u ty e i (.int .u8 0) ht hu hi hz ⟨g, 0, none⟩ n cap xs (by rw [hsize]; simpa using hxl) holds s (by omega) (by omega) (by rw [hby]; exact growslice_fits (by omega) (by omega))
      rw [hr] at hr2
      simp only [Result.ok.injEq] at hr2
      obtain ⟨rfl, rfl⟩ := hr2
      intro g' hg'
      right
      simp [Value.ownBlock] at hg'
      omega

/-- append of a text onto a row of the call's own, as a step of a region that draws its order. -/
theorem step_append_own_string {P : Program} {ops : Array Oper} {o : Oper} {a : Act} {w : World} {K : Act → World → Prop} {Q : Exit → Act → World → Prop} {E : Prop}
    (hg : o.guard = none) (sl x : Operand) (t u : TypeId) (ho : o.op = Op.call { callee := Callee.builtin Builtin.append, args := #[sl, x], argTypes := #[t, u] })
    (base : Nat) (e : TypeId) (i : TypeInfo) (ht : P.underlying t = some (.slice e)) (hu : P.underlying u = some .string) (hi : P.info? e = some i) (hz : i.zero = some (.int .u8 0)) (hsize : i.size = 1) (hby : i.bytes = 1)
    (v : Value) (n : Nat) (xs : List Value) (hs : a.eval sl = v) (hown : w.ownsRow base e 1 v n xs) (s : ByteArray) (hx : a.eval x = .string s)
    (h63 : n + s.size ≤ maxLen) (hbytes : n + s.size ≤ 140737488355328) (hbase : base ≤ w.heap.size)
    (hK : ∀ v' w', w'.ownsRow base e 1 v' (n + s.size) (xs ++ Lib.strCells s) → w.grownBy w' v.ownBlock → Nw w v v' → K (a.put o.dst v') w') :
    if Region.wanted o (yielded ops a.tmps) = true then Oper.wp P o a w K Q else E := by
  have hw : Region.wanted o (yielded ops a.tmps) = true := by simp [Region.wanted, hg]
  rw [if_pos hw]
  obtain ⟨v', w', hr, h2, h3, h4⟩ := append_nw (P := P) w t u o.type base e i ht hu hi hz hsize hby v n xs hown s h63 hbytes hbase
  unfold Oper.wp execOp
  simp only [ho, resolve, invoke, builtin, Sem.run_bind, Sem.run_pure, Result.andThen_ok, List.map_toArray, List.map_cons, List.map_nil, hs, hx, hr]
  exact hK v' w' h2 h3 h4
theorem info5 : (Try.prog.info? 5).map (fun i => (i.zero, i.size, i.bytes)) = some (some (.int .u8 0), 1, 1) := by kernel_rfl

theorem strCells_append (a b : ByteArray) : Lib.strCells (a ++ b) = Lib.strCells a ++ Lib.strCells b := by
  unfold Lib.strCells
  rw [ByteArray.data_append, Array.toList_append, List.map_append]
theorem strCells_extract (a : ByteArray) (i j : Nat) : Lib.strCells (a.extract i j) = ((Lib.strCells a).take j).drop i := by
  unfold Lib.strCells
  rw [ByteArray.data_extract, Array.toList_extract, List.extract_eq_take_drop, ← List.map_take, ← List.map_drop]
  congr 1
  rw [List.drop_take]
theorem ext_list {a b : ByteArray} (h : a.data.toList = b.data.toList) : a = b := by
  cases a; cases b; congr 1; exact Array.toList_inj.1 h
theorem extract_list (s : ByteArray) (a b : Nat) : (s.extract a b).data.toList = (s.data.toList.take b).drop a := by
  rw [ByteArray.data_extract, Array.toList_extract, List.extract_eq_take_drop, List.drop_take]

set_option maxRecDepth 20000 in
/-- A piece of the bytes of a row, as a text. -/
theorem sub_row {W : World} {B : Nat} {v : Value} {K : ByteArray} (hown : W.ownsRow B 5 1 v K.size (Lib.strCells K)) (x y : Nat) (hx : x ≤ y) (hy : y ≤ K.size) :
    ∃ S : Value, (∀ w', (Instr.slice 95 v (some (.int .i64 (x : Int))) (some (.int .i64 (y : Int))) none).run Try.prog w' = .ok S w') ∧
      ∀ n, (convert 95 9 S).run Try.prog (W.drewN n) = .ok (.string (K.extract x y)) (W.drewN n) := by
  obtain ⟨i0, hi, hz0, hz1, hz2⟩ := info_parts info5
  rcases hown.2 with ⟨rfl, h0⟩ | ⟨g, cap, cur, rfl, hbg, hg, hnc, hcm, hcs, htake⟩
  · obtain rfl : y = 0 := by omega
    obtain rfl : x = 0 := by omega
    refine ⟨.slice none 0 0, fun w' => ?_, fun n => ?_⟩
    · simp [Instr.slice, Instr.sliceBounds, Instr.sliceBound, asIntOf, run_underlying Try.underlying95, sizeOf, typeInfo, hi, go_sem]
    · have := run_convert_bytes_nil (P := Try.prog) (W.drewN n) 95 5 Try.underlying95 Try.underlying5 0 0 9 Try.underlying9
      rw [this]
      congr 2
      apply ext_list
      rw [extract_list]; simp
  · have hyc : y ≤ cap := by omega
    refine ⟨.slice (some (if cap = x then ⟨g, 0, none⟩ else ⟨g, x, none⟩)) (y - x) (cap - x), fun w' => ?_, fun n => ?_⟩
    · have h1 : ((0 : Int) ≤ (y : Int) ∧ (y : Int) ≤ (cap : Int)) := by omega
      have h2 : ((0 : Int) ≤ (x : Int) ∧ (x : Int) ≤ (y : Int)) := by omega
      by_cases hc : cap = x
      · simp [Instr.slice, Instr.sliceBounds, Instr.sliceBound, asIntOf, run_underlying Try.underlying95, sizeOf, typeInfo, hi, hz1, go_sem, h1, h2, hc]
        rw [if_pos (by omega), if_pos hx]
      · simp [Instr.slice, Instr.sliceBounds, Instr.sliceBound, asIntOf, run_underlying Try.underlying95, sizeOf, typeInfo, hi, hz1, go_sem, h1, h2, hc]
        rw [if_pos (by omega), if_pos hx]
    · have hz : ∀ b off c, (b = g ∧ off = x ∨ x = y) → (convert 95 9 (.slice (some ⟨b, off, none⟩) (y - x) c)).run Try.prog (W.drewN n) = .ok (.string (K.extract x y)) (W.drewN n) := by
        intro b off c hb
        have hl : ((K.extract x y).data.toList.map fun (u : UInt8) => (u.toNat : Int)).length = y - x := by
          rw [List.length_map, extract_list]; simp; omega
        have := run_convert_bytes_arg (P := Try.prog) (W.drewN n) 95 5 Try.underlying95 Try.underlying5 b off (y - x) c _ hl (fun i hi => ?_) 9 Try.underlying9
        · rw [this]
          congr 2
          apply ext_list
          rw [strOfNums_data, List.map_map]
          conv => rhs; rw [← List.map_id (K.extract x y).data.toList]
          apply List.map_congr_left
          intro u _
          simp
        · rcases hb with ⟨rfl, rfl⟩ | rfl
          · have hd : (Lib.strCells K)[off + i]? = some (.int .u8 ((K.data.toList[off + i]'(by simp; omega)).toNat)) := by
              unfold Lib.strCells
              rw [List.getElem?_map, List.getElem?_eq_getElem (by simp; omega)]
              rfl
            rw [← htake, List.getElem?_take, if_pos (by omega)] at hd
            show W.cell? ⟨b, off + i, none⟩ = _
            rw [Joins.cell_of_block hg, ← Array.getElem?_toList, hd, List.getD_eq_getElem?_getD, List.getElem?_map, extract_list, List.getElem?_drop, List.getElem?_take, if_pos (by omega), List.getElem?_eq_getElem (by simp; omega)]
            rfl
          · omega
      by_cases hc : cap = x
      · rw [if_pos hc]; exact hz _ _ _ (Or.inr (by omega))
      · rw [if_neg hc]; exact hz _ _ _ (Or.inl ⟨rfl, rfl⟩)

/-! Gt -/

theorem new_any (w : World) :
    Calls Try.prog 38 #[] w fun e w' => e = .returned (.pointer (some ⟨w.heap.size, 0, none⟩)) ∧ QR w.heap.size w.heap.size (.slice none 0 0) ⟨#[]⟩ 1 false 0 0 0 w' ∧ Below w.heap.size w w' := by
  have T0 : Hid (QR w.heap.size w.heap.size (.slice none 0 0) ⟨#[]⟩ 1 false 0 0 0 (w.alloc (.cells #[.slice none 0 0, .int .i64 1, .bool false, .int .i64 0, .int .i64 0, .int .i64 0] 97))) :=
    ⟨heap_alloc_new w _, World.ownsRow_nil _ _ _ _, Nat.le_refl _⟩
  have b0 : Below w.heap.size w (w.alloc (.cells #[.slice none 0 0, .int .i64 1, .bool false, .int .i64 0, .int .i64 0, .int .i64 0] 97)) := (Below.refl _ _).alloc (Nat.le_refl _) _
  go_enter Try.func38, Try.ntmps38
  go_wp2_with fail
  go_ret
  exact ⟨rfl, T0.out, b0⟩
section
variable {B b : Nat} {v : Value} {K : ByteArray} {l : Int} {sh : Bool} {u c s : Int} {w : World}
theorem una_any (h : QR B b v K l sh u c s w) :
    Calls Try.prog 66 #[.pointer (some ⟨b, 0, none⟩)] w fun e w' => e = .returned (.int .i64 u) ∧ w' = w := by
  have c3 := h.c3
  clear h
  go_enter Try.func66, Try.ntmps66
  go_wp2_with fail
  go_ret
  exact ⟨rfl, rfl⟩
theorem cur_any (h : QR B b v K l sh u c s w) :
    Calls Try.prog 65 #[.pointer (some ⟨b, 0, none⟩)] w fun e w' => e = .returned (.int .i64 c) ∧ w' = w := by
  have c4 := h.c4
  clear h
  go_enter Try.func65, Try.ntmps65
  go_wp2_with fail
  go_ret
  exact ⟨rfl, rfl⟩
theorem sent_any (h : QR B b v K l sh u c s w) :
    Calls Try.prog 34 #[.pointer (some ⟨b, 0, none⟩)] w fun e w' => e = .returned (.int .i64 s) ∧ w' = w := by
  have c5 := h.c5
  clear h
  go_enter Try.func34, Try.ntmps34
  go_wp2_with fail
  go_ret
  exact ⟨rfl, rfl⟩
theorem end_any (h : QR B b v K l sh u c s w) (l0 : 0 ≤ l) (l1 : l ≤ 9007199254740992) (n : Int) (hn : n = l + if sh = true then 1 else 0) :
    Calls Try.prog 68 #[.pointer (some ⟨b, 0, none⟩)] w fun e w' => e = .returned (.int .i64 n) ∧ w' = w := by
  have c1 := h.c1
  have c2 := h.c2
  clear h
  cases sh
  · obtain rfl : n = l := by simpa using hn
    clear hn
    go_enter Try.func68, Try.ntmps68
    go_wp2_with fail
    go_ret
    exact ⟨rfl, rfl⟩
  · obtain rfl : n = l + 1 := by simpa using hn
    clear hn
    go_enter Try.func68, Try.ntmps68
    go_wp2_with fail
    go_ret
    exact ⟨rfl, rfl⟩
theorem room_any (h : QR B b v K l sh u c s w) (hK : K.size ≤ 2048) (n : Int) (hn : n = if sh = true then 0 else 2048 - (K.size : Int)) :
    Calls Try.prog 46 #[.pointer (some ⟨b, 0, none⟩)] w fun e w' => e = .returned (.int .i64 n) ∧ w' = w := by
  obtain ⟨o, cap, rfl⟩ := h.shape
  have c0 := h.c0
  have c2 := h.c2
  clear h
  cases sh
  · obtain rfl : n = 2048 - (K.size : Int) := by simpa using hn
    clear hn
    go_enter Try.func46, Try.ntmps46
    go_wp2_with fail
    go_ret
    exact ⟨rfl, rfl⟩
  · obtain rfl : n = 0 := by simpa using hn
    clear hn
    go_enter Try.func46, Try.ntmps46
    go_wp2_with fail
    go_ret
    exact ⟨rfl, rfl⟩
theorem start_any (h : QR B b v K l sh u c s w) (hK : K.size ≤ 2048) (l0 : 0 ≤ l) (l1 : l ≤ 9007199254740992) (n : Int) (hn : n = l - (K.size : Int)) :
    Calls Try.prog 94 #[.pointer (some ⟨b, 0, none⟩)] w fun e w' => e = .returned (.int .i64 n) ∧ ∃ m, w' = w.drewN m := by
  obtain ⟨o, cap, rfl⟩ := h.shape
  have c0 := h.c0
  have c1 := h.c1
  clear h
  subst hn
  go_enter Try.func94, Try.ntmps94
  go_wp2_with fail
  go_quiet (fail)
  go_wp2_with fail
  go_ret
  exact ⟨rfl, _, rfl⟩
theorem close_any (h : QR B b v K l sh u c s w) :
    Calls Try.prog 47 #[.pointer (some ⟨b, 0, none⟩)] w fun e w' => e = .returned (.tuple #[]) ∧ QR B b v K l true u c s w' ∧ Kp [b] w w' := by
  have c2 := h.c2
  have f2 := h.free 2
  have HF : Hid (QR B b v K l true u c s (w.setCell ⟨b, 2, none⟩ (.bool true)) ∧ Kp [b] w (w.setCell ⟨b, 2, none⟩ (.bool true))) := ⟨h.set2 true, (Kp.refl _ _).setCell (Or.inl (by simp)) _⟩
  clear h
  go_enter Try.func47, Try.ntmps47
  go_wp2_with fail
  refine bodyPost_end (results_none rfl _ _ _) rfl ?_
  exact ⟨rfl, HF.out⟩
theorem back_any (h : QR B b v K l sh u c s w) :
    Calls Try.prog 44 #[.pointer (some ⟨b, 0, none⟩)] w fun e w' => e = .returned (.tuple #[]) ∧ QR B b v K l sh u u s w' ∧ Kp [b] w w' := by
  have c3 := h.c3
  have c4 := h.c4
  have f4 := h.free 4
  have HF : Hid (QR B b v K l sh u u s (w.setCell ⟨b, 4, none⟩ (.int .i64 u)) ∧ Kp [b] w (w.setCell ⟨b, 4, none⟩ (.int .i64 u))) := ⟨h.set4 u, (Kp.refl _ _).setCell (Or.inl (by simp)) _⟩
  clear h
  go_enter Try.func44, Try.ntmps44
  go_wp2_with fail
  refine bodyPost_end (results_none rfl _ _ _) rfl ?_
  exact ⟨rfl, HF.out⟩
end

/-! Wq -/

/-- For how many bytes there is room. -/
def rm (K : ByteArray) (sh : Bool) : Nat := if sh = true then 0 else 2048 - K.size
theorem rm_le (K : ByteArray) (sh : Bool) : rm K sh ≤ 2048 := by unfold rm; split <;> omega
set_option maxHeartbeats 1000000 in
theorem write_any {B b : Nat} {v : Value} {K : ByteArray} {l : Int} {sh : Bool} {u c s : Int} {w : World} (t : ByteArray) (h : QR B b v K l sh u c s w) (hK : K.size ≤ 2048) (l0 : 0 ≤ l) (l1 : l ≤ 4503599627370496) (ht : t.size ≤ maxLen) (n : Nat) (hn : n = min t.size (rm K sh)) :
    Calls Try.prog 25 #[.pointer (some ⟨b, 0, none⟩), .string t] w fun e w' => e = .returned (.int .i64 (n : Int)) ∧ (∃ v', QR B b v' (K ++ t.extract 0 n) (l + n) sh u c s w' ∧ Nw w v v') ∧ Kp (b :: rw' v) w w' := by
  obtain ⟨i0, hi, hz0, hz1, hz2⟩ := info_parts info5
  obtain ⟨o, cap, rfl⟩ := h.shape
  unfold maxLen at ht
  have hr := rm_le K sh
  have HR : Hid (∀ w', QR B b (.slice o K.size cap) K l sh u c s w' → Calls Try.prog 46 #[.pointer (some ⟨b, 0, none⟩)] w' fun e w'' => e = .returned (.int .i64 (rm K sh : Int)) ∧ w'' = w') := fun w' h' => room_any h' hK _ (by unfold rm; cases sh <;> simp; omega)
  have hn0 : n ≤ t.size := by omega
  have hn1 : n ≤ rm K sh := by omega
  have hm : Hid (min (t.size : Int) (rm K sh : Int) = (n : Int)) := by show _ = _; omega
  have zx : (t.extract 0 n).size = n := by simp; omega
  have s1 : ∀ w', (Instr.slice 9 (.string t) none (some (.int .i64 (n : Int))) none).run Try.prog w' = .ok (.string (t.extract 0 n)) w' := fun w' => by
    have := run_slice_string_h (P := Try.prog) w' 9 t Try.underlying9 .i64 n (by omega) (by omega)
    simpa using this
  have HO : Hid (w.drew.ownsRow B 5 1 (.slice o K.size cap) K.size (Lib.strCells K)) := h.drew.own
  have HB : Hid (B ≤ w.drew.heap.size) := h.base
  have HX : Hid (∀ v' w', w'.ownsRow B 5 1 v' (K.size + (t.extract 0 n).size) (Lib.strCells K ++ Lib.strCells (t.extract 0 n)) → w.drew.grownBy w' (Value.slice o K.size cap).ownBlock →
      (∃ o' cap', v' = .slice o' (K.size + (t.extract 0 n).size) cap') ∧ w'.cell? ⟨b, 0, none⟩ = some (.slice o K.size cap) ∧ w'.frozen? ⟨b, 0, none⟩ = false ∧ QR B b v' (K ++ t.extract 0 n) l sh u c s (w'.setCell ⟨b, 0, none⟩ v') ∧ Kp (b :: rw' (.slice o K.size cap)) w (w'.setCell ⟨b, 0, none⟩ v')) := by
    intro v' w' h1 h2
    have hne := h.drew.row_ne h.drew.blk (by decide)
    have hb : w'.heap[b]? = w.drew.heap[b]? := h2.block b h.drew.lt (fun e => hne e.symm)
    refine ⟨?_, ?_, ?_, ?_, ?_⟩
    · rcases h1.2 with ⟨rfl, h0⟩ | ⟨g, cap', cur, rfl, _⟩
      · exact ⟨none, 0, by rw [h0]⟩
      · exact ⟨_, _, rfl⟩
    · rw [World.cell?_of_block (w := w.drew) hb]; exact h.drew.c0
    · rw [World.frozen?_of_block (w := w.drew) hb]; exact h.drew.free 0
    · exact h.drew.put h2 hne (by rw [ByteArray.size_append, strCells_append]; exact h1)
    · exact (((Kp.refl _ w).drew).grown h2 (fun k hk => by rw [List.mem_cons]; right; unfold rw'; rw [hk]; simp)).setCell (Or.inl (by simp)) _
  have c0 := h.c0
  have hhr := Lib.hid h
  have hT : (t.extract 0 n).size ≤ 2048 := by omega
  have HW : Hid (IntKind.i64.wrap (l + (n : Int)) = l + n) := by show _ = _; rw [IntKind.wrap_i64]; omega
  have hn2 : n ≤ 2048 := by omega
  clear hn h hn1 zx
  generalize rm K sh = r at *
  generalize t.extract 0 n = T at *
  go_enter Try.func25, Try.ntmps25
  go_wp2_with fail
  refine (HR.out _ hhr.out).mono ?_; rintro e w1 ⟨rfl, rfl⟩
  go_wp2_with fail
  rw [hm.out]
  clear hm HR ht
  go_region_law (refine step_append_own_string rfl (.tmp 15) (.tmp 18) 95 9 rfl B 5 i0 Try.underlying95 Try.underlying9 hi hz0 hz1 hz2 (.slice o K.size cap) K.size (Lib.strCells K) (by simp [Act.eval, Act.put]) HO.out T (by simp [Act.eval, Act.put]) (by unfold maxLen; omega) (by omega) HB.out ?_; intro v1 w2 hown hgrow hnw0; have HNw := Lib.hid hnw0; clear hnw0; obtain ⟨⟨o1, cap1, rfl⟩, d0, f0, HQ0⟩ := HX.out _ _ hown hgrow)
  have HQ := Lib.hid HQ0
  clear HQ0 HX hown hgrow d0 f0
  generalize w2.setCell ⟨b, 0, none⟩ _ = w3 at *
  have c1 := HQ.out.1.c1
  have f1 := HQ.out.1.free 1
  go_wp2_with fail
  go_ret
  exact ⟨rfl, ⟨_, HQ.out.1.set1 _, HNw.out⟩, HQ.out.2.setCell (Or.inl (by simp)) _⟩

/-! Pq -/

section
variable {B b : Nat} {v : Value} {K : ByteArray} {l : Int} {sh : Bool} {u c s : Int} {w : World}
set_option maxHeartbeats 1000000 in
theorem text_any (a z : Int) (h : QR B b v K l sh u c s w) (hK : K.size ≤ 2048) (l0 : 0 ≤ l) (l1 : l ≤ 9007199254740992) (ha : l - (K.size : Int) ≤ a) (hz : a ≤ z) (hzl : z ≤ l) :
    Calls Try.prog 85 #[.pointer (some ⟨b, 0, none⟩), .int .i64 a, .int .i64 z] w fun e w' => e = .returned (.string (K.extract (a - (l - (K.size : Int))).toNat (z - (l - (K.size : Int))).toNat)) ∧ ∃ m, w' = w.drewN m := by
  obtain ⟨o, cap, rfl⟩ := h.shape
  have HS : Hid (∀ n, Calls Try.prog 94 #[.pointer (some ⟨b, 0, none⟩)] (w.drewN n) fun e w'' => e = .returned (.int .i64 (l - (K.size : Int))) ∧ ∃ m, w'' = (w.drewN n).drewN m) := fun n => start_any (h.drewN n) hK l0 l1 _ rfl
  obtain ⟨S, hsl0, hcv⟩ := sub_row h.own (a - (l - (K.size : Int))).toNat (z - (l - (K.size : Int))).toNat (by omega) (by omega)
  have hsl : ∀ w', (Instr.slice 95 (.slice o K.size cap) (some (.int .i64 (a - (l - (K.size : Int))))) (some (.int .i64 (z - (l - (K.size : Int))))) none).run Try.prog w' = .ok S w' := by
    intro w'
    have := hsl0 w'
    rwa [Int.toNat_of_nonneg (by omega), Int.toNat_of_nonneg (by omega)] at this
  have c0 := h.c0
  clear h hsl0
  generalize K.extract (a - (l - (K.size : Int))).toNat (z - (l - (K.size : Int))).toNat = T at *
  go_enter Try.func85, Try.ntmps85
  go_wp2_with fail
  go_quiet ((go_at_call 94; exact Calls.quiet_of (HS.out _)))
  go_wp2_with fail
  go_ret
  exact ⟨rfl, _, rfl⟩
end

/-- How many places a piece has. -/
def plen (p : Pc) : Int := (p.body.size : Int) + (if p.syn = true then 1 else 0) + (if p.fin = true then 1 else 0)
theorem length_any (p : Pc) (w : World) (hp : p.body.size ≤ 4503599627370496) (n : Int) (hn : n = plen p) :
    Calls Try.prog 72 #[pvv p] w fun e w' => e = .returned (.int .i64 n) ∧ Below w.heap.size w w' := by
  obtain ⟨at', syn, fin, body⟩ := p
  have hp : body.size ≤ 4503599627370496 := hp
  have b0 : Below w.heap.size w (w.alloc (.cells (pcs ⟨at', syn, fin, body⟩) 99)) := (Below.refl _ _).alloc (Nat.le_refl _) _
  cases syn <;> cases fin
  · obtain rfl : n = body.size := by rw [hn]; simp [plen]
    clear hn
    go_enter Try.func72, Try.ntmps72
    go_wp2
    go_ret
    exact ⟨rfl, b0⟩
  · obtain rfl : n = body.size + 1 := by rw [hn]; simp [plen]
    clear hn
    go_enter Try.func72, Try.ntmps72
    go_wp2
    go_ret
    exact ⟨rfl, b0⟩
  · obtain rfl : n = body.size + 1 := by rw [hn]; simp [plen]
    clear hn
    go_enter Try.func72, Try.ntmps72
    go_wp2
    go_ret
    exact ⟨rfl, b0⟩
  · obtain rfl : n = body.size + 1 + 1 := by rw [hn]; simp [plen]
    clear hn
    go_enter Try.func72, Try.ntmps72
    go_wp2
    go_ret
    exact ⟨rfl, b0⟩

/-- The place behind a piece's bytes. -/
def bh (l a lim mss : Int) : Int := a + min mss (min lim l - a)
/-- How many places there are. -/
def en (l : Int) (sh : Bool) : Int := l + if sh = true then 1 else 0
/-- Whether something goes out from place a on. -/
abbrev go? (l : Int) (sh : Bool) (a lim mss : Int) : Prop := a < min lim (en l sh) ∧ 1 ≤ mss
/-- What goes out from place a on: T are the bytes. -/
def pz (T : ByteArray) (l : Int) (sh : Bool) (a lim mss : Int) : Pc :=
  if go? l sh a lim mss then if a = 0 then ⟨0, true, false, ⟨#[]⟩⟩ else ⟨a, false, sh && decide (bh l a lim mss = l) && decide (bh l a lim mss < lim), T⟩ else pc0

section
variable {B b : Nat} {v : Value} {K : ByteArray} {l : Int} {sh : Bool} {u c s : Int} {w : World}
set_option maxHeartbeats 1000000 in
theorem piece_no (a lim mss : Int) (h : QR B b v K l sh u c s w) (l0 : 0 ≤ l) (l1 : l ≤ 9007199254740992) (hg : ¬ go? l sh a lim mss) :
    Calls Try.prog 71 #[.pointer (some ⟨b, 0, none⟩), .int .i64 a, .int .i64 lim, .int .i64 mss] w fun e w' => e = .returned (.tuple #[pvv pc0, .bool false]) ∧ Below w.heap.size w w' := by
  have HE : Hid (∀ w', QR B b v K l sh u c s w' → Calls Try.prog 68 #[.pointer (some ⟨b, 0, none⟩)] w' fun e w'' => e = .returned (.int .i64 (en l sh)) ∧ w'' = w') := fun w' h' => end_any h' l0 l1 _ rfl
  have b0 : Below w.heap.size w (w.alloc (.cells (pcs pc0) 99)) := (Below.refl _ _).alloc (Nat.le_refl _) _
  have P0 : Hid (PB w.heap.size pc0 (w.alloc (.cells (pcs pc0) 99))) := PB.new w pc0
  have Q0 : Hid (QR B b v K l sh u c s (w.alloc (.cells (pcs pc0) 99))) := h.alloc _
  replace hg : min lim (en l sh) ≤ a ∨ mss < 1 := by omega
  clear h
  generalize en l sh = E at *
  by_cases h1 : min lim E ≤ a
  · clear hg
    go_enter Try.func71, Try.ntmps71
    go_wp2_with fail
    refine (HE.out _ Q0.out).mono ?_; rintro e w1 ⟨rfl, rfl⟩
    go_wp2_with (refine wpList_store_mid rfl _ _ _ rfl _ _ (pcs pc0) rfl rfl P0.out.there info46 (pcs_one pc0) ?_)
    exact bodyPost_ret (v := .tuple #[pvv pc0, .bool false]) (by simp [results, Try.results71, Act.put, asAddr, told _ w.heap.size pc0 pc0 P0.out]) rfl ⟨rfl, below_setCells b0 (Nat.le_refl _) _ _⟩
  · have h2 : mss < 1 := by omega
    clear hg
    go_enter Try.func71, Try.ntmps71
    go_wp2_with fail
    refine (HE.out _ Q0.out).mono ?_; rintro e w1 ⟨rfl, rfl⟩
    go_wp2_with (refine wpList_store_mid rfl _ _ _ rfl _ _ (pcs pc0) rfl rfl P0.out.there info46 (pcs_one pc0) ?_)
    exact bodyPost_ret (v := .tuple #[pvv pc0, .bool false]) (by simp [results, Try.results71, Act.put, asAddr, told _ w.heap.size pc0 pc0 P0.out]) rfl ⟨rfl, below_setCells b0 (Nat.le_refl _) _ _⟩
set_option maxHeartbeats 1000000 in
theorem piece_syn (lim mss : Int) (h : QR B b v K l sh u c s w) (l0 : 0 ≤ l) (l1 : l ≤ 9007199254740992) (hg : go? l sh 0 lim mss) :
    Calls Try.prog 71 #[.pointer (some ⟨b, 0, none⟩), .int .i64 0, .int .i64 lim, .int .i64 mss] w fun e w' => e = .returned (.tuple #[pvv ⟨0, true, false, ⟨#[]⟩⟩, .bool true]) ∧ Below w.heap.size w w' := by
  have HE : Hid (∀ w', QR B b v K l sh u c s w' → Calls Try.prog 68 #[.pointer (some ⟨b, 0, none⟩)] w' fun e w'' => e = .returned (.int .i64 (en l sh)) ∧ w'' = w') := fun w' h' => end_any h' l0 l1 _ rfl
  have b0 : Below w.heap.size w (w.alloc (.cells (pcs pc0) 99)) := (Below.refl _ _).alloc (Nat.le_refl _) _
  have P0 : Hid (PB w.heap.size pc0 (w.alloc (.cells (pcs pc0) 99))) := PB.new w pc0
  have Q0 : Hid (QR B b v K l sh u c s (w.alloc (.cells (pcs pc0) 99))) := h.alloc _
  obtain ⟨h1, h2⟩ := hg
  clear h
  generalize en l sh = E at *
  have h3 : ¬ min lim E ≤ 0 := by omega
  have h4 : ¬ mss < 1 := by omega
  go_enter Try.func71, Try.ntmps71
  go_wp2_with fail
  refine (HE.out _ Q0.out).mono ?_; rintro e w1 ⟨rfl, rfl⟩
  go_wp2_with (refine wpList_store_mid rfl _ _ _ rfl _ _ (pcs ⟨0, true, false, ⟨#[]⟩⟩) rfl rfl P0.out.there info46 (pcs_one _) ?_)
  exact bodyPost_ret (v := .tuple #[pvv ⟨0, true, false, ⟨#[]⟩⟩, .bool true]) (by simp [results, Try.results71, Act.put, asAddr, told _ w.heap.size pc0 ⟨0, true, false, ⟨#[]⟩⟩ P0.out]) rfl ⟨rfl, below_setCells b0 (Nat.le_refl _) _ _⟩
set_option maxHeartbeats 4000000 in
theorem piece_some (a lim mss : Int) (h : QR B b v K l sh u c s w) (hK : K.size ≤ 2048) (l0 : 0 ≤ l) (l1 : l ≤ 9007199254740992) (hg : go? l sh a lim mss) (ha0 : 0 < a) (ha : l - (K.size : Int) ≤ a) (m1 : mss ≤ 9223372036854775807) (p : Pc) (hp : p = ⟨a, false, sh && decide (bh l a lim mss = l) && decide (bh l a lim mss < lim), K.extract (a - (l - (K.size : Int))).toNat (bh l a lim mss - (l - (K.size : Int))).toNat⟩) :
    Calls Try.prog 71 #[.pointer (some ⟨b, 0, none⟩), .int .i64 a, .int .i64 lim, .int .i64 mss] w fun e w' => e = .returned (.tuple #[pvv p, .bool true]) ∧ Below w.heap.size w w' := by
  have HE : Hid (∀ w', QR B b v K l sh u c s w' → Calls Try.prog 68 #[.pointer (some ⟨b, 0, none⟩)] w' fun e w'' => e = .returned (.int .i64 (en l sh)) ∧ w'' = w') := fun w' h' => end_any h' l0 l1 _ rfl
  have b0 : Below w.heap.size w (w.alloc (.cells (pcs pc0) 99)) := (Below.refl _ _).alloc (Nat.le_refl _) _
  have P0 : Hid (PB w.heap.size pc0 (w.alloc (.cells (pcs pc0) 99))) := PB.new w pc0
  have Q0 : Hid (QR B b v K l sh u c s (w.alloc (.cells (pcs pc0) 99))) := h.alloc _
  obtain ⟨h1, h2⟩ := hg
  have hE : en l sh ≤ l + 1 := by unfold en; split <;> omega
  obtain ⟨z, hz⟩ : ∃ z, z = bh l a lim mss := ⟨_, rfl⟩
  have hz' : z = a + min mss (min lim l - a) := hz
  rw [← hz] at hp
  have hza : a ≤ z := by omega
  have hzl : z ≤ l := by omega
  have HT : Hid (∀ q w', q = z → QR B b v K l sh u c s w' → Calls Try.prog 85 #[.pointer (some ⟨b, 0, none⟩), .int .i64 a, .int .i64 q] w' fun e w'' => e = .returned (.string (K.extract (a - (l - (K.size : Int))).toNat (z - (l - (K.size : Int))).toNat)) ∧ ∃ m, w'' = w'.drewN m) := fun q w' hq h' => by
    subst hq
    exact text_any a q h' hK l0 l1 ha hza hzl
  have HP : Hid (∀ F, F = (sh && decide (z = l) && decide (z < lim)) → p = ⟨a, false, F, K.extract (a - (l - (K.size : Int))).toNat (z - (l - (K.size : Int))).toNat⟩) := fun F hF => by rw [hp, hF]
  have HZ : Hid (a + min mss (min lim l - a) = z) := hz'.symm
  have c1 := Q0.out.c1
  have c2 := Q0.out.c2
  generalize K.extract (a - (l - (K.size : Int))).toNat (z - (l - (K.size : Int))).toNat = T at *
  clear h hz hz' hp
  generalize en l sh = E at *
  have h3 : ¬ min lim E ≤ a := by omega
  have h4 : ¬ mss < 1 := by omega
  have h5 : (a == 0) = false := by simp; omega
  go_enter Try.func71, Try.ntmps71
  go_wp2_with fail
  refine (HE.out _ Q0.out).mono ?_; rintro e w1 ⟨rfl, rfl⟩
  go_wp2_with fail
  · refine (HT.out _ _ (by rw [← HZ.out]; symm; assumption) Q0.out).mono ?_; rintro e w1 ⟨rfl, m, hw1⟩
    have P1 : Hid (PB w.heap.size pc0 w1) := by show PB w.heap.size pc0 w1; rw [hw1]; exact P0.out.drewN m
    have b1 : Below w.heap.size w w1 := by rw [hw1]; exact b0.trans ((below_drewN _ m).mono (by simp))
    clear hw1 b0 P0 Q0 HT
    have HF := Lib.hid (HP.out (decide (l < lim)) (by rw [show z = l from by rw [← HZ.out]; assumption]; simp [*]))
    clear HP
    go_wp2_with (refine wpList_store_mid rfl _ _ _ rfl _ _ (pcs ⟨a, false, (decide (l < lim)), T⟩) rfl rfl P1.out.there info46 (pcs_one _) ?_)
    exact bodyPost_ret (v := .tuple #[pvv ⟨a, false, (decide (l < lim)), T⟩, .bool true]) (by simp [results, Try.results71, Act.put, asAddr, told _ w.heap.size pc0 ⟨a, false, (decide (l < lim)), T⟩ P1.out]) rfl ⟨by rw [HF.out], below_setCells b1 (Nat.le_refl _) _ _⟩
  · refine (HT.out _ _ (by rw [← HZ.out]) Q0.out).mono ?_; rintro e w1 ⟨rfl, m, hw1⟩
    have P1 : Hid (PB w.heap.size pc0 w1) := by show PB w.heap.size pc0 w1; rw [hw1]; exact P0.out.drewN m
    have b1 : Below w.heap.size w w1 := by rw [hw1]; exact b0.trans ((below_drewN _ m).mono (by simp))
    clear hw1 b0 P0 Q0 HT
    have HF := Lib.hid (HP.out false (by rw [decide_eq_false (show ¬ z = l from by rw [← HZ.out]; assumption)]; simp))
    clear HP
    go_wp2_with (refine wpList_store_mid rfl _ _ _ rfl _ _ (pcs ⟨a, false, false, T⟩) rfl rfl P1.out.there info46 (pcs_one _) ?_)
    exact bodyPost_ret (v := .tuple #[pvv ⟨a, false, false, T⟩, .bool true]) (by simp [results, Try.results71, Act.put, asAddr, told _ w.heap.size pc0 ⟨a, false, false, T⟩ P1.out]) rfl ⟨by rw [HF.out], below_setCells b1 (Nat.le_refl _) _ _⟩
  · refine (HT.out _ _ (by rw [← HZ.out]) Q0.out).mono ?_; rintro e w1 ⟨rfl, m, hw1⟩
    have P1 : Hid (PB w.heap.size pc0 w1) := by show PB w.heap.size pc0 w1; rw [hw1]; exact P0.out.drewN m
    have b1 : Below w.heap.size w w1 := by rw [hw1]; exact b0.trans ((below_drewN _ m).mono (by simp))
    clear hw1 b0 P0 Q0 HT
    have HF := Lib.hid (HP.out false (by simp [*]))
    clear HP
    go_wp2_with (refine wpList_store_mid rfl _ _ _ rfl _ _ (pcs ⟨a, false, false, T⟩) rfl rfl P1.out.there info46 (pcs_one _) ?_)
    exact bodyPost_ret (v := .tuple #[pvv ⟨a, false, false, T⟩, .bool true]) (by simp [results, Try.results71, Act.put, asAddr, told _ w.heap.size pc0 ⟨a, false, false, T⟩ P1.out]) rfl ⟨by rw [HF.out], below_setCells b1 (Nat.le_refl _) _ _⟩
end

/-! Nq -/

/-- What goes out from place a on, out of the bytes K that lie ahead of place l. -/
def px (K : ByteArray) (l : Int) (sh : Bool) (a lim mss : Int) : Pc := pz (K.extract (a - (l - (K.size : Int))).toNat (bh l a lim mss - (l - (K.size : Int))).toNat) l sh a lim mss
theorem px_body (K : ByteArray) (l : Int) (sh : Bool) (a lim mss : Int) : (px K l sh a lim mss).body.size ≤ K.size := by
  unfold px pz
  split
  · split
    · show (⟨#[]⟩ : ByteArray).size ≤ _; exact Nat.zero_le _
    · show (K.extract _ _).size ≤ _; simp; omega
  · show (⟨#[]⟩ : ByteArray).size ≤ _; exact Nat.zero_le _
theorem plen_bnd (p : Pc) : (p.body.size : Int) ≤ plen p ∧ plen p ≤ p.body.size + 2 := by
  unfold plen
  cases p.syn <;> cases p.fin <;> simp <;> omega
section
variable {B b : Nat} {v : Value} {K : ByteArray} {l : Int} {sh : Bool} {u c s : Int} {w : World}
theorem piece_any (a lim mss : Int) (h : QR B b v K l sh u c s w) (hK : K.size ≤ 2048) (l0 : 0 ≤ l) (l1 : l ≤ 9007199254740992) (ha0 : 0 ≤ a) (ha : 0 < a → l - (K.size : Int) ≤ a) (m1 : mss ≤ 9223372036854775807) :
    Calls Try.prog 71 #[.pointer (some ⟨b, 0, none⟩), .int .i64 a, .int .i64 lim, .int .i64 mss] w fun e w' => e = .returned (.tuple #[pvv (px K l sh a lim mss), .bool (decide (go? l sh a lim mss))]) ∧ Below w.heap.size w w' := by
  by_cases hg : go? l sh a lim mss
  · rw [decide_eq_true hg]
    unfold px pz
    rw [if_pos hg]
    by_cases h0 : a = 0
    · subst h0
      rw [if_pos rfl]
      exact piece_syn lim mss h l0 l1 hg
    · rw [if_neg h0]
      exact piece_some a lim mss h hK l0 l1 hg (by omega) (ha (by omega)) m1 _ rfl
  · rw [decide_eq_false hg]
    unfold px pz
    rw [if_neg hg]
    exact piece_no a lim mss h l0 l1 hg
end

/-- Next, half way. -/
structure NX (w W : World) (B b : Nat) (v : Value) (K : ByteArray) (l : Int) (sh : Bool) (u c s : Int) (n0 bx : Nat) (p : Pc) : Prop where
  q : QR B b v K l sh u c s W
  p0 : PB n0 pc0 W
  p1 : PB bx p W
  kp : Kp [b] w W
  l0 : b ≠ n0
  l1 : b ≠ bx
  l2 : w.heap.size ≤ n0
section
variable {w W W' : World} {B b : Nat} {v : Value} {K : ByteArray} {l : Int} {sh : Bool} {u c s : Int} {n0 bx : Nat} {p : Pc}
theorem NX.on (h : NX w W B b v K l sh u c s n0 bx p) (hb : Below W.heap.size W W') : NX w W' B b v K l sh u c s n0 bx p := ⟨h.q.keep hb, h.p0.keep hb, h.p1.keep hb, h.kp.then hb, h.l0, h.l1, h.l2⟩
theorem NX.drew (h : NX w W B b v K l sh u c s n0 bx p) : NX w W.drew B b v K l sh u c s n0 bx p := ⟨h.q.drew, h.p0.drew, h.p1.drew, h.kp.drew, h.l0, h.l1, h.l2⟩
theorem PB.set_other {k : Nat} (h : PB k p W) {b : Nat} (hk : b ≠ k) (i : Nat) (x : Value) : PB k p (W.setCell ⟨b, i, none⟩ x) := (Below.heap_setCell _ _ _ _ (fun e => hk e.symm)).trans h
theorem NX.set4 (h : NX w W B b v K l sh u c s n0 bx p) (x : Int) : NX w (W.setCell ⟨b, 4, none⟩ (.int .i64 x)) B b v K l sh u x s n0 bx p :=
  ⟨h.q.set4 x, h.p0.set_other h.l0 _ _, h.p1.set_other h.l1 _ _, h.kp.setCell (Or.inl (by simp)) _, h.l0, h.l1, h.l2⟩
theorem NX.set5 (h : NX w W B b v K l sh u c s n0 bx p) (x : Int) : NX w (W.setCell ⟨b, 5, none⟩ (.int .i64 x)) B b v K l sh u c x n0 bx p :=
  ⟨h.q.set5 x, h.p0.set_other h.l0 _ _, h.p1.set_other h.l1 _ _, h.kp.setCell (Or.inl (by simp)) _, h.l0, h.l1, h.l2⟩
end
section
variable {B b : Nat} {v : Value} {K : ByteArray} {l : Int} {sh : Bool} {u c s : Int} {w : World}
set_option maxHeartbeats 4000000 in
theorem next_any (lim mss : Int) (h : QR B b v K l sh u c s w) (hK : K.size ≤ 2048) (l0 : 0 ≤ l) (l1 : l ≤ 9007199254740992) (c0 : 0 ≤ c) (c1 : c ≤ 9007199254740994) (ha : 0 < c → l - (K.size : Int) ≤ c) (m1 : mss ≤ 9223372036854775807) (p : Pc) (hp : p = px K l sh c lim mss) (n : Int) (hn : n = c + plen p) (g : Bool) (hg : g = decide (go? l sh c lim mss)) :
    Calls Try.prog 50 #[.pointer (some ⟨b, 0, none⟩), .int .i64 lim, .int .i64 mss] w fun e w' => e = .returned (.tuple #[pvv p, .bool g]) ∧ QR B b v K l sh u n (max s n) w' ∧ Kp [b] w w' := by
  have HC : Hid (∀ w', QR B b v K l sh u c s w' → Calls Try.prog 71 #[.pointer (some ⟨b, 0, none⟩), .int .i64 c, .int .i64 lim, .int .i64 mss] w' fun e w'' => e = .returned (.tuple #[pvv p, .bool g]) ∧ Below w'.heap.size w' w'') := fun w' h' => by
    rw [hp, hg]
    exact piece_any c lim mss h' hK l0 l1 c0 ha m1
  have hpb : p.body.size ≤ 2048 := by
    have := px_body K l sh c lim mss
    rw [← hp] at this; omega
  obtain ⟨pl0, pl1⟩ := plen_bnd p
  have HL : Hid (∀ w', Calls Try.prog 72 #[pvv p] w' fun e w'' => e = .returned (.int .i64 (plen p)) ∧ Below w'.heap.size w' w'') := fun w' => length_any p w' (by omega) _ rfl
  have Q1 : Hid (QR B b v K l sh u c s (w.alloc (.cells (pcs pc0) 99))) := h.alloc _
  have P1 : Hid (PB w.heap.size pc0 (w.alloc (.cells (pcs pc0) 99))) := PB.new w pc0
  have K1 : Hid (Kp [b] w (w.alloc (.cells (pcs pc0) 99))) := Kp.ofBelow ((Below.refl _ _).alloc (Nat.le_refl _) _)
  have hb0 : b ≠ w.heap.size := by have := h.lt; omega
  have c4 : (w.alloc (.cells #[.int .i64 0, .bool false, .bool false, .string ⟨#[]⟩] 99)).cell? ⟨b, 4, none⟩ = some (.int .i64 c) := Q1.out.c4
  have HN := Lib.hid hn
  clear h hp hg hn
  generalize plen p = k at *
  have k0 : 0 ≤ k := by omega
  have k1 : k ≤ 2050 := by omega
  have HWr : Hid (IntKind.i64.wrap (c + k) = c + k) := by show _ = _; rw [IntKind.wrap_i64]; omega
  go_enter Try.func50, Try.ntmps50
  go_wp2_with fail
  refine (HC.out _ Q1.out).mono ?_; rintro e w2 ⟨rfl, hb2⟩
  have X3 : Hid (NX w (w2.alloc (.cells (pcs p) 99)) B b v K l sh u c s w.heap.size w2.heap.size p) := ⟨(Q1.out.keep hb2).alloc _, (P1.out.keep hb2).alloc _, PB.new w2 p, (K1.out.then hb2).then ((Below.refl _ _).alloc (Nat.le_refl _) _), hb0, by have := (Q1.out.keep hb2).lt; omega, Nat.le_refl _⟩
  clear Q1 P1 K1 hb2 c4 HC
  go_wp2_with (refine wpList_store_last rfl 99 _ _ rfl w2 _ (pcs p) rfl rfl rfl info46 rfl (pcs_one p) ?_)
  generalize w2.heap.size = bx at *
  generalize w2.alloc (.cells (pcs p) 99) = w3 at *
  have d4 : w3.drew.cell? ⟨b, 4, none⟩ = some (.int .i64 c) := X3.out.drew.q.c4
  have q0 : w3.drew.cell? ⟨bx, 0, none⟩ = some (.int .i64 p.at') := X3.out.drew.p1.c0
  have q1 : w3.drew.cell? ⟨bx, 1, none⟩ = some (.bool p.syn) := X3.out.drew.p1.c1
  have q2 : w3.drew.cell? ⟨bx, 2, none⟩ = some (.bool p.fin) := X3.out.drew.p1.c2
  have q3 : w3.drew.cell? ⟨bx, 3, none⟩ = some (.string p.body) := X3.out.drew.p1.c3
  go_cut [] from 21 to 29 (fun W => NX w W B b v K l sh u n s w.heap.size bx p)
  case first =>
    go_region_with (go_at_call 72; refine (HL.out _).mono ?_; rintro e w4 ⟨rfl, hb4⟩; have X4 := Lib.hid (X3.out.drew.on hb4); have e4 := X4.out.q.c4; have f4 := X4.out.q.free 4; clear hb4)
    all_goals
      try go_wp2_with fail
      go_meet
      rw [HN.out, HWr.out]
      exact X4.out.set4 _
  have X5 := Lib.hid hcut
  clear hcut X3 d4 q0 q1 q2 q3 HL
  have e4 : wc.drew.cell? ⟨b, 4, none⟩ = some (.int .i64 n) := X5.out.q.c4
  have e5 : wc.drew.cell? ⟨b, 5, none⟩ = some (.int .i64 s) := X5.out.q.c5
  have f5 : wc.drew.frozen? ⟨b, 5, none⟩ = false := X5.out.q.free 5
  go_wp2_with fail
  go_cut [] from 30 to 41 (fun W => NX w W B b v K l sh u n (max s n) w.heap.size bx p)
  case first =>
    go_region
    all_goals
      try go_wp2_with fail
      go_meet
      exact X5.out.drew.set5 _
  have X6 := Lib.hid hcut
  clear hcut X5 e4 e5 f5
  have HU := Lib.hid Try.underlying99
  go_wp2_with (first | (refine wpList_load_mid rfl _ _ rfl _ _ rfl (pcl p) _ X6.out.p1.range HU.out rfl info46 ?_) | (refine wpList_store_mid rfl _ _ _ rfl _ _ (pcs p) rfl rfl X6.out.p0.there info46 (pcs_one _) ?_))
  exact bodyPost_ret (v := .tuple #[pvv p, .bool g]) (by simp [results, Try.results50, Act.put, asAddr, told _ w.heap.size pc0 p X6.out.p0]) rfl ⟨rfl, X6.out.q.kp (bs := [w.heap.size]) ((Kp.refl _ _).setCells (Or.inl (by simp)) _ _) (by simpa using hb0) (fun g hg hm => X6.out.q.row_ne X6.out.p0 (by decide) (by rw [hg]; simpa using hm)), X6.out.kp.setCells (Or.inr (Nat.le_refl _)) _ _⟩
set_option maxHeartbeats 4000000 in
theorem first_any (mss : Int) (h : QR B b v K l sh u c s w) (hK : K.size ≤ 2048) (l0 : 0 ≤ l) (l1 : l ≤ 9007199254740992) (u0 : 0 ≤ u) (ha : 0 < u → l - (K.size : Int) ≤ u) (m1 : mss ≤ 9223372036854775807) (p : Pc) (hp : p = px K l sh u s mss) (g : Bool) (hg : g = decide (go? l sh u s mss)) :
    Calls Try.prog 69 #[.pointer (some ⟨b, 0, none⟩), .int .i64 mss] w fun e w' => e = .returned (.tuple #[pvv p, .bool g]) ∧ Below w.heap.size w w' := by
  have HC : Hid (∀ w', QR B b v K l sh u c s w' → Calls Try.prog 71 #[.pointer (some ⟨b, 0, none⟩), .int .i64 u, .int .i64 s, .int .i64 mss] w' fun e w'' => e = .returned (.tuple #[pvv p, .bool g]) ∧ Below w'.heap.size w' w'') := fun w' h' => by
    rw [hp, hg]
    exact piece_any u s mss h' hK l0 l1 u0 ha m1
  have P1 : Hid (PB w.heap.size pc0 (w.alloc (.cells (pcs pc0) 99)).drew) := PB.new w pc0
  have b1 : Below w.heap.size w (w.alloc (.cells (pcs pc0) 99)).drew := ((Below.refl _ _).alloc (Nat.le_refl _) _).drew
  have Q1 : Hid (QR B b v K l sh u c s (w.alloc (.cells (pcs pc0) 99)).drew) := (h.alloc _).drew
  have c3 : (w.alloc (.cells #[.int .i64 0, .bool false, .bool false, .string ⟨#[]⟩] 99)).drew.cell? ⟨b, 3, none⟩ = some (.int .i64 u) := Q1.out.c3
  have c5 : (w.alloc (.cells #[.int .i64 0, .bool false, .bool false, .string ⟨#[]⟩] 99)).drew.cell? ⟨b, 5, none⟩ = some (.int .i64 s) := Q1.out.c5
  clear h hp hg
  go_enter Try.func69, Try.ntmps69
  go_wp2_with fail
  go_region_with (go_at_call 71; refine (HC.out _ Q1.out).mono ?_; rintro e w4 ⟨rfl, hb4⟩; have P4 := Lib.hid (P1.out.keep hb4); have b4 := b1.trans (hb4.mono b1.size); have e0 := P4.out.c0; have e1 := P4.out.c1; have e2 := P4.out.c2; have e3 := P4.out.c3; have f0 := P4.out.free 0; have f1 := P4.out.free 1; have f2 := P4.out.free 2; have f3 := P4.out.free 3; clear hb4)
  all_goals
    go_wp2_with fail
    have T4 := told w4 w.heap.size pc0 p P4.out
    simp only [World.setCells] at T4
    exact bodyPost_ret (v := .tuple #[pvv p, .bool g]) (by simp [results, Try.results69, Act.put, asAddr, T4]) rfl ⟨rfl, below_setCells (vs := pcl p) (o := 0) b4 (Nat.le_refl _)⟩
end

/-! Dq -/

/-- Values laid over a row from place o on. -/
def lay1 (cs : Array Value) (o : Nat) : List Value → Array Value
  | [] => cs
  | v :: r => lay1 (cs.setIfInBounds o v) (o + 1) r
theorem lay1_size (vs : List Value) : ∀ (cs : Array Value) (o : Nat), (lay1 cs o vs).size = cs.size := by
  induction vs with
  | nil => intro cs o; rfl
  | cons v r ih => intro cs o; rw [lay1, ih]; simp
theorem lay1_get (vs : List Value) : ∀ (cs : Array Value) (o k : Nat), o + vs.length ≤ cs.size → (lay1 cs o vs)[k]? = if o ≤ k ∧ k < o + vs.length then vs[k - o]? else cs[k]? := by
  induction vs with
  | nil => intro cs o k h; rw [lay1, if_neg (by simp)]
  | cons v r ih =>
    intro cs o k h
    rw [List.length_cons] at h
    rw [lay1, ih _ _ _ (by simp; omega), List.length_cons]
    by_cases hk : o + 1 ≤ k ∧ k < o + 1 + r.length
    · rw [if_pos hk, if_pos (by omega), show k - o = (k - (o + 1)) + 1 from by omega, List.getElem?_cons_succ]
    · rw [if_neg hk]
      by_cases he : k = o
      · subst he
        rw [if_pos (by omega), Nat.sub_self, List.getElem?_cons_zero, Array.getElem?_setIfInBounds]
        simp [show k < cs.size from by omega]
      · rw [if_neg (by omega), Array.getElem?_setIfInBounds, if_neg (by omega)]
theorem block_setCells {g : Nat} {t : TypeId} {fr : Nat × Nat} (vs : List Value) : ∀ {w : World} {cs : Array Value} (o : Nat), w.heap[g]? = some (.cells cs t fr) → (w.setCells g o vs).heap[g]? = some (.cells (lay1 cs o vs) t fr) := by
  induction vs with
  | nil => intro w cs o h; exact h
  | cons v r ih => intro w cs o h; exact ih (o + 1) (Joins.block_setCell h v)
theorem _root_.Go.Proofs.Ytnhcjefbiihfjaa.Kp.toGrown {w w' : World} {row : Option Nat} (h : Kp row.toList w w') : w.grownBy w' row := ⟨h.os, h.tape, h.output, h.size, fun k hk hn => h.block k hk (fun hm => hn (Eq.symm (by simpa using hm)))⟩
theorem strCells_size (K : ByteArray) : (Lib.strCells K).length = K.size := Lib.strCells_length K

theorem zero5 (w : World) : (zeroValue 5).run Try.prog w = .ok (.int .u8 0) w := by kernel_rfl

set_option maxRecDepth 20000 in
set_option maxHeartbeats 2000000 in
theorem del_any {B : Nat} {v : Value} {K : ByteArray} {w : World} (hown : w.ownsRow B 5 1 v K.size (Lib.strCells K)) (hK : K.size ≤ 2048) (j : Nat) (hj : j ≤ K.size) :
    Calls Try.prog 102 #[v, .int .i64 0, .int .i64 (j : Int)] w fun e w' => ∃ v', e = .returned v' ∧ w'.ownsRow B 5 1 v' (K.extract j K.size).size (Lib.strCells (K.extract j K.size)) ∧ w.grownBy w' v.ownBlock ∧ v'.ownBlock = v.ownBlock := by
  obtain ⟨i0, hi, hz0, hz1, hz2⟩ := info_parts info5
  by_cases hj0 : j = 0
  · subst hj0
    have HE : Hid (K.extract 0 K.size = K) := by show _ = _; apply ext_list; rw [extract_list, List.drop_zero, List.take_of_length_le (by simp)]
    obtain ⟨o, cap, rfl⟩ : ∃ o cap, v = .slice o K.size cap := by
      rcases hown.2 with ⟨rfl, h0⟩ | ⟨g, cap, cur, rfl, _⟩
      · exact ⟨none, 0, by rw [h0]⟩
      · exact ⟨_, cap, rfl⟩
    have hc : K.size ≤ cap := by
      rcases hown.2 with ⟨h0, h1⟩ | ⟨g, cap', cur, h0, _, _, h1, _⟩
      · omega
      · injection h0 with _ _ h0; omega
    have HO := Lib.hid hown
    clear hown
    go_enter Try.func102, Try.ntmps102
    go_wp2
    all_goals
      go_ret
      exact ⟨_, rfl, by rw [HE.out]; exact HO.out, ⟨rfl, rfl, rfl, Nat.le_refl _, fun _ _ _ => rfl⟩, rfl⟩
  · rcases hown.2 with ⟨rfl, h0⟩ | ⟨g, cap, cur, rfl, hbg, hg, hnc, hcm, hcs, htake⟩
    · omega
    · have hjp : 0 < j := by omega
      obtain ⟨news, hnews⟩ : ∃ news, news = (Lib.strCells K).drop j := ⟨_, rfl⟩
      have hlen : news.length = K.size - j := by rw [hnews, List.length_drop, strCells_size]
      obtain ⟨A, hA, hsrc⟩ : ∃ A : Addr, (if cap = j then (some ⟨g, 0, none⟩ : Option Addr) else some ⟨g, j, none⟩) = some A ∧ Hid (∀ t u, news[t]? = some u → w.drew.cell? (A.add t) = some u) := by
        by_cases h : cap = j
        · refine ⟨⟨g, 0, none⟩, by simp [h], fun t u hu => ?_⟩
          have h0 : news.length = 0 := by rw [hlen]; omega
          rw [List.length_eq_zero_iff.1 h0] at hu
          simp at hu
        · refine ⟨⟨g, j, none⟩, by simp [h], fun t u hu => ?_⟩
          have ht : t < K.size - j := by
            have := (List.getElem?_eq_some_iff.1 hu).1
            rwa [hlen] at this
          rw [Addr.add_lit]
          show w.cell? ⟨g, j + t, none⟩ = some u
          rw [Joins.cell_of_block hg, ← hu, hnews, List.getElem?_drop, ← htake, List.getElem?_take, if_pos (by omega), Array.getElem?_toList]
      have s1 : Hid (news.length = (K.size - j) * 1) := by show _ = _; rw [Nat.mul_one]; exact hlen
      have s2 : Hid (∀ u ∈ news, u.oneCell' = true) := by
        intro u hu
        rw [hnews] at hu
        exact Lib.strCells_oneCell K u (List.mem_of_mem_drop hu)
      have s3 : Hid (∀ t, t < news.length → (w.drew.cell? ⟨g, 0 + 0 * 1 + t, none⟩).isSome = true ∧ w.drew.frozen? ⟨g, 0 + 0 * 1 + t, none⟩ = false) := by
        intro t ht
        rw [hlen] at ht
        refine ⟨?_, Joins.unfrozen_of_block (w := w.drew) hg _⟩
        show (w.cell? ⟨g, 0 + 0 * 1 + t, none⟩).isSome = true
        rw [Joins.cell_of_block hg, Array.getElem?_eq_getElem (by omega)]; rfl
      obtain ⟨W1, hW1⟩ : ∃ W1, W1 = w.drew.setCells g (0 + 0 * 1) news := ⟨_, rfl⟩
      have h1 : W1.heap[g]? = some (.cells (lay1 cur 0 news) 5 (0, 0)) := by rw [hW1]; exact block_setCells (w := w.drew) news _ hg
      have k1 : Kp [g] w W1 := by rw [hW1]; exact ((Kp.refl _ w).drew).setCells (Or.inl (by simp)) _ _
      have hcl : ∀ ty, (Builtin.clear_ #[95] ty #[.slice (some ⟨g, K.size - j, none⟩) (K.size - (K.size - j)) (cap - (K.size - j))]).run Try.prog W1 = .ok (.tuple #[]) (W1.setCells g (K.size - j) (List.replicate j (.int .u8 0))) :=
        fun ty => by
          rw [show K.size - (K.size - j) = j from by omega]
          exact Lib.run_clear_slice W1 95 5 ty (.int .u8 0) Try.underlying95 zero5 rfl rfl g (K.size - j) j _ hjp
            (fun t ht => by rw [Joins.cell_of_block h1, Array.getElem?_eq_getElem (by rw [lay1_size]; omega)]; rfl) (fun t ht => Joins.unfrozen_of_block h1 _)
      have HF : Hid ((W1.setCells g (K.size - j) (List.replicate j (.int .u8 0))).ownsRow B 5 1 (.slice (some ⟨g, 0, none⟩) (K.size - j) cap) (K.extract j K.size).size (Lib.strCells (K.extract j K.size)) ∧ w.grownBy (W1.setCells g (K.size - j) (List.replicate j (.int .u8 0))) (some g)) := by
        have hz : (K.extract j K.size).size = K.size - j := by simp
        refine ⟨?_, Kp.toGrown (row := some g) (k1.setCells (Or.inl (by simp)) _ _)⟩
        rw [hz]
        refine ⟨by rw [strCells_size, hz, Nat.mul_one], Or.inr ⟨g, cap, _, rfl, hbg, block_setCells _ _ h1, by omega, hcm, ?_, ?_⟩⟩
        · rw [lay1_size, lay1_size]; exact hcs
        · rw [strCells_extract, show (Lib.strCells K).take K.size = Lib.strCells K from List.take_of_length_le (by rw [strCells_size]; omega), ← hnews, Nat.mul_one]
          apply List.ext_getElem?
          intro k
          rw [List.getElem?_take, Array.getElem?_toList]
          by_cases hk : k < K.size - j
          · rw [if_pos hk, lay1_get _ _ _ _ (by rw [lay1_size, List.length_replicate]; omega), if_neg (by omega), lay1_get _ _ _ _ (by rw [hlen]; omega), if_pos (by rw [hlen]; omega), Nat.sub_zero]
          · rw [if_neg hk, List.getElem?_eq_none (by rw [hlen]; omega)]
      have hW : Hid (W1 = w.drew.setCells g (0 + 0 * 1) news) := hW1
      have hjc : j ≤ cap := by omega
      have hne : ¬ cap = K.size - j := by omega
      have hc0 : ¬ cap = 0 := by omega
      unfold maxLen at hcm
      clear hW1 h1 k1 hnews hlen htake hg hcs hown hj0
      go_enter Try.func102, Try.ntmps102
      go_wp2_with fail
      go_region_law (refine step_append_room rfl (.tmp 22) (.tmp 25) 95 rfl 5 i0 1 Try.underlying95 hi hz1 g 0 0 cap (by simp [Act.eval, Act.put]) A (K.size - j) (cap - j) news (by simp [Act.eval, Act.put]) s1.out hsrc.out s2.out (by omega) s3.out ?_; rw [← hW.out])
      go_wp2
      go_ret
      exact ⟨_, rfl, HF.out.1, HF.out.2, rfl⟩

/-! Dr -/

section
variable {B b : Nat} {v : Value} {K : ByteArray} {l : Int} {sh : Bool} {u c s : Int} {w : World}
set_option maxHeartbeats 1000000 in
/-- The bytes ahead of place q are let go. -/
theorem drop_any (q : Int) (h : QR B b v K l sh u c s w) (hK : K.size ≤ 2048) (l0 : 0 ≤ l) (l1 : l ≤ 9007199254740992) (q0 : -9223372036854775808 ≤ q) (q1 : q ≤ 9223372036854775807) (j : Nat) (hj : (j : Int) = min q l - (l - (K.size : Int))) (hjK : j ≤ K.size) :
    Calls Try.prog 95 #[.pointer (some ⟨b, 0, none⟩), .int .i64 q] w fun e w' => e = .returned (.tuple #[]) ∧ (∃ v', QR B b v' (K.extract j K.size) l sh u c s w' ∧ Nw w v v') ∧ Kp (b :: rw' v) w w' := by
  obtain ⟨o, cap, rfl⟩ := h.shape
  have HS : Hid (Calls Try.prog 94 #[.pointer (some ⟨b, 0, none⟩)] w.drew fun e w'' => e = .returned (.int .i64 (l - (K.size : Int))) ∧ ∃ m, w'' = w.drew.drewN m) := start_any h.drew hK l0 l1 _ rfl
  have HG : Hid (∀ w' m, w' = w.drew.drewN m → QR B b (.slice o K.size cap) K l sh u c s w' ∧ w'.cell? ⟨b, 0, none⟩ = some (.slice o K.size cap) ∧ w'.cell? ⟨b, 1, none⟩ = some (.int .i64 l) ∧ Kp (b :: rw' (.slice o K.size cap)) w w') := fun w' m e => by
    subst e
    exact ⟨h.drew.drewN m, (h.drew.drewN m).c0, (h.drew.drewN m).c1, ((Kp.refl _ w).drew).drewN m⟩
  have HD : Hid (∀ x w', x = (j : Int) → QR B b (.slice o K.size cap) K l sh u c s w' → Calls Try.prog 102 #[.slice o K.size cap, .int .i64 0, .int .i64 x] w' fun e w'' => ∃ v', e = .returned v' ∧ w''.ownsRow B 5 1 v' (K.extract j K.size).size (Lib.strCells (K.extract j K.size)) ∧ w'.grownBy w'' (Value.slice o K.size cap).ownBlock ∧ v'.ownBlock = (Value.slice o K.size cap).ownBlock) := fun x w' hx h' => by
    subst hx
    exact del_any h'.own hK j hjK
  have HE : Hid (∀ w' v' w'', QR B b (.slice o K.size cap) K l sh u c s w' → Kp (b :: rw' (.slice o K.size cap)) w w' → w''.ownsRow B 5 1 v' (K.extract j K.size).size (Lib.strCells (K.extract j K.size)) → w'.grownBy w'' (Value.slice o K.size cap).ownBlock →
      (∃ o' n' cap', v' = .slice o' n' cap') ∧ w''.cell? ⟨b, 0, none⟩ = some (.slice o K.size cap) ∧ w''.frozen? ⟨b, 0, none⟩ = false ∧ w''.cell? ⟨b, 1, none⟩ = some (.int .i64 l) ∧ QR B b v' (K.extract j K.size) l sh u c s (w''.setCell ⟨b, 0, none⟩ v') ∧ Kp (b :: rw' (.slice o K.size cap)) w (w''.setCell ⟨b, 0, none⟩ v')) := fun w' v' w'' hq hk h1 h2 => by
    have hne := hq.row_ne hq.blk (by decide)
    have hb : w''.heap[b]? = w'.heap[b]? := h2.block b hq.lt (fun e => hne e.symm)
    refine ⟨?_, ?_, ?_, ?_, hq.put h2 hne h1, (hk.grown h2 (fun k hk => by rw [List.mem_cons]; right; unfold rw'; rw [hk]; simp)).setCell (Or.inl (by simp)) _⟩
    · rcases h1.2 with ⟨rfl, h0⟩ | ⟨g, cap', cur, rfl, _⟩
      · exact ⟨none, 0, 0, rfl⟩
      · exact ⟨_, _, _, rfl⟩
    · rw [World.cell?_of_block (w := w') hb]; exact hq.c0
    · rw [World.frozen?_of_block (w := w') hb]; exact hq.free 0
    · rw [World.cell?_of_block (w := w') hb]; exact hq.c1
  have c0 : w.drew.cell? ⟨b, 0, none⟩ = some (.slice o K.size cap) := h.c0
  have c1 : w.drew.cell? ⟨b, 1, none⟩ = some (.int .i64 l) := h.c1
  have HNO : Hid (∀ v3 : Value, v3.ownBlock = (Value.slice o K.size cap).ownBlock → Nw w (.slice o K.size cap) v3) := fun v3 hn g hg => Or.inl (by rw [← hn]; exact hg)
  have HJ : Hid (IntKind.i64.wrap (min q l - (l - (K.size : Int))) = (j : Int)) := by show _ = _; rw [← hj, IntKind.wrap_i64]; omega
  have hj2 : (j : Int) ≤ 2048 := by omega
  have hm0 : l - 2048 ≤ min q l := by omega
  have hm1 : min q l ≤ l := by omega
  have hv : (K.extract j K.size).size = K.size - j := by simp
  clear h hj hv
  go_enter Try.func95, Try.ntmps95
  go_wp2_with fail
  refine wp_region_held_drew (S := (fun w' => w'.cell? ⟨b, 1, none⟩ = some (.int .i64 l))) (by kernel_rfl) c1 (fun hHeld => ?_)
  refine takeH (i := 0) (d := some 4) (v := ?_) rfl rfl (by kernel_rfl) (by kernel_rfl) (by kernel_rfl) (fun _ _ _ h => h) (Or.inl ⟨by rfl, ?_⟩) hHeld ?_
  rotate_left
  · intro w' hSw; (try dsimp only at hSw); go_simp; try with_reducible rfl
  simp only [Act.put, List.setIfInBounds_toArray, List.set_cons_zero, List.set_cons_succ]
  refine takeH (i := 1) (d := some 5) (v := ?_) rfl rfl (by kernel_rfl) (by kernel_rfl) (by kernel_rfl) (fun _ _ _ h => h) (Or.inl ⟨by rfl, ?_⟩) hHeld ?_
  rotate_left
  · intro w' hSw; (try dsimp only at hSw); go_simp; try with_reducible rfl
  simp only [Act.put, List.setIfInBounds_toArray, List.set_cons_zero, List.set_cons_succ]
  refine takeH (i := 2) (d := some 6) (v := ?_) rfl rfl (by kernel_rfl) (by kernel_rfl) (by kernel_rfl) (fun _ _ _ h => h) (Or.inl ⟨by rfl, ?_⟩) hHeld ?_
  rotate_left
  · intro w' hSw; (try dsimp only at hSw); go_simp; try with_reducible rfl
  simp only [Act.put, List.setIfInBounds_toArray, List.set_cons_zero, List.set_cons_succ]
  refine takeH (i := 3) (d := some 7) (v := ?_) rfl rfl (by kernel_rfl) (by kernel_rfl) (by kernel_rfl) (fun _ _ _ h => h) (Or.inl ⟨by rfl, ?_⟩) hHeld ?_
  rotate_left
  · intro w' hSw; (try dsimp only at hSw); go_simp; try with_reducible rfl
  simp only [Act.put, List.setIfInBounds_toArray, List.set_cons_zero, List.set_cons_succ]
  refine takeH (i := 5) (d := some 9) (v := ?_) rfl rfl (by kernel_rfl) (by kernel_rfl) (by kernel_rfl) (fun _ _ _ h => h) (Or.inl ⟨by rfl, ?_⟩) hHeld ?_
  rotate_left
  · intro w' hSw; (try dsimp only at hSw); go_simp; try with_reducible rfl
  simp only [Act.put, List.setIfInBounds_toArray, List.set_cons_zero, List.set_cons_succ]
  refine takeH (i := 6) (d := some 10) (v := ?_) rfl rfl (by kernel_rfl) (by kernel_rfl) (by kernel_rfl) (fun _ _ _ h => h) (Or.inl ⟨by rfl, ?_⟩) hHeld ?_
  rotate_left
  · intro w' hSw; (try dsimp only at hSw); go_simp; try with_reducible rfl
  simp only [Act.put, List.setIfInBounds_toArray, List.set_cons_zero, List.set_cons_succ]
  refine takeH (i := 7) (d := some 11) (v := ?_) rfl rfl (by kernel_rfl) (by kernel_rfl) (by kernel_rfl) (fun _ _ _ h => h) (Or.inl ⟨by rfl, ?_⟩) hHeld ?_
  rotate_left
  · intro w' hSw; (try dsimp only at hSw); go_simp; try with_reducible rfl
  simp only [Act.put, List.setIfInBounds_toArray, List.set_cons_zero, List.set_cons_succ]
  refine takeH (i := 8) (d := some 12) (v := ?_) rfl rfl (by kernel_rfl) (by kernel_rfl) (by kernel_rfl) (fun _ _ _ h => h) (Or.inl ⟨by rfl, ?_⟩) hHeld ?_
  rotate_left
  · intro w' hSw; (try dsimp only at hSw); go_simp; try with_reducible rfl
  simp only [Act.put, List.setIfInBounds_toArray, List.set_cons_zero, List.set_cons_succ]
  refine takeH (i := 9) (d := some 13) (v := ?_) rfl rfl (by kernel_rfl) (by kernel_rfl) (by kernel_rfl) (fun _ _ _ h => h) (Or.inl ⟨by rfl, ?_⟩) hHeld ?_
  rotate_left
  · intro w' hSw; (try dsimp only at hSw); go_simp; try with_reducible rfl
  simp only [Act.put, List.setIfInBounds_toArray, List.set_cons_zero, List.set_cons_succ]
  refine takeH (i := 10) (d := some 14) (v := ?_) rfl rfl (by kernel_rfl) (by kernel_rfl) (by kernel_rfl) (fun _ _ _ h => h) (Or.inl ⟨by rfl, ?_⟩) hHeld ?_
  rotate_left
  · intro w' hSw; (try dsimp only at hSw); go_simp; try with_reducible rfl
  simp only [Act.put, List.setIfInBounds_toArray, List.set_cons_zero, List.set_cons_succ]
  refine takeH (i := 11) (d := some 15) (v := ?_) rfl rfl (by kernel_rfl) (by kernel_rfl) (by kernel_rfl) (fun _ _ _ h => h) (Or.inl ⟨by rfl, ?_⟩) hHeld ?_
  rotate_left
  · intro w' hSw; (try dsimp only at hSw); go_simp; try with_reducible rfl
  simp only [Act.put, List.setIfInBounds_toArray, List.set_cons_zero, List.set_cons_succ]
  refine wpAnyH_ready (rs := [4, 12]) (by kernel_rfl) (by simp) ?_
  refine AllReadyH.cons rfl (fun K hK => ?_) (AllReadyH.cons rfl (fun K hK => ?_) AllReadyH.nil)
  · go_simp
    clear hHeld
    refine hK.out _ _ c1 (fun hHeld => ?_)
    clear hK K
    try simp only [Act.put, List.setIfInBounds_toArray, List.set_cons_zero, List.set_cons_succ]
    refine wpAnyH_ready (rs := [12]) (by kernel_rfl) (by simp) ?_
    refine AllReadyH.cons rfl (fun K hK => ?_) AllReadyH.nil
    go_simp
    refine (HS.out).mono ?_; rintro e w2 ⟨rfl, m2, hw2⟩
    obtain ⟨Q2, d0, d1, K2⟩ := HG.out _ _ hw2
    have HQ2 := Lib.hid Q2
    have HK2 := Lib.hid K2
    clear Q2 K2 hw2
    clear hHeld
    refine hK.out _ _ d1 (fun hHeld => ?_)
    clear hK K
    try simp only [Act.put, List.setIfInBounds_toArray, List.set_cons_zero, List.set_cons_succ]
    refine takeH (i := 13) (d := some 17) (v := ?_) rfl rfl (by kernel_rfl) (by kernel_rfl) (by kernel_rfl) (fun _ _ _ h => h) (Or.inl ⟨by rfl, ?_⟩) hHeld ?_
    rotate_left
    · intro w' hSw; (try dsimp only at hSw); go_simp; try with_reducible rfl
    simp only [Act.put, List.setIfInBounds_toArray, List.set_cons_zero, List.set_cons_succ]
    refine wpAnyH_ready (rs := [14]) (by kernel_rfl) (by simp) ?_
    refine AllReadyH.cons rfl (fun K hK => ?_) AllReadyH.nil
    go_simp
    refine (HD.out _ _ HJ.out HQ2.out).mono ?_; rintro e w3 ⟨v3, rfl, hown, hgrow, hnw⟩
    have HNw := Lib.hid (HNO.out v3 hnw)
    clear hnw
    obtain ⟨⟨o3, n3, cap3, rfl⟩, e0, f0, e1, HQ0⟩ := HE.out _ _ _ HQ2.out HK2.out hown hgrow
    have HQ3 := Lib.hid HQ0
    clear HQ0 hown hgrow
    clear hHeld
    refine hK.out _ _ e1 (fun hHeld => ?_)
    clear hK K
    try simp only [Act.put, List.setIfInBounds_toArray, List.set_cons_zero, List.set_cons_succ]
    refine takeH (i := 15) (d := some 19) (v := ?_) rfl rfl (by kernel_rfl) (by kernel_rfl) (by kernel_rfl) (fun _ _ _ h => h) (Or.inl ⟨by rfl, ?_⟩) hHeld ?_
    rotate_left
    · intro w' hSw; (try dsimp only at hSw); go_simp; try with_reducible rfl
    simp only [Act.put, List.setIfInBounds_toArray, List.set_cons_zero, List.set_cons_succ]
    refine takeH (i := 16) (d := some 20) (v := ?_) rfl rfl (by kernel_rfl) (by kernel_rfl) (by kernel_rfl) (fun _ _ _ h => h) (Or.inl ⟨by rfl, ?_⟩) hHeld ?_
    rotate_left
    · intro w' hSw; (try dsimp only at hSw); go_simp; try with_reducible rfl
    simp only [Act.put, List.setIfInBounds_toArray, List.set_cons_zero, List.set_cons_succ]
    refine wpAnyH_ready (rs := [17]) (by kernel_rfl) (by simp) ?_
    refine AllReadyH.cons rfl (fun K hK => ?_) AllReadyH.nil
    go_simp
    clear hHeld
    refine hK.out _ _ (HQ3.out.1.c1) (fun hHeld => ?_)
    clear hK K
    try simp only [Act.put, List.setIfInBounds_toArray, List.set_cons_zero, List.set_cons_succ]
    refine wpAnyH_done (by kernel_rfl) ?_ _
    go_wp2_with fail
    refine bodyPost_end (results_none rfl _ _ _) rfl ?_
    exact ⟨rfl, ⟨_, HQ3.out.1, HNw.out⟩, HQ3.out.2⟩
  · go_simp
    refine HS.out.mono ?_; rintro e w2 ⟨rfl, m2, hw2⟩
    obtain ⟨Q2, d0, d1, K2⟩ := HG.out _ _ hw2
    have HQ2 := Lib.hid Q2
    have HK2 := Lib.hid K2
    clear Q2 K2 hw2
    clear hHeld
    refine hK.out _ _ d1 (fun hHeld => ?_)
    clear hK K
    try simp only [Act.put, List.setIfInBounds_toArray, List.set_cons_zero, List.set_cons_succ]
    refine takeH (i := 13) (d := some 17) (v := ?_) rfl rfl (by kernel_rfl) (by kernel_rfl) (by kernel_rfl) (fun _ _ _ h => h) (Or.inl ⟨by rfl, ?_⟩) hHeld ?_
    rotate_left
    · intro w' hSw; (try dsimp only at hSw); go_simp; try with_reducible rfl
    simp only [Act.put, List.setIfInBounds_toArray, List.set_cons_zero, List.set_cons_succ]
    refine wpAnyH_ready (rs := [4]) (by kernel_rfl) (by simp) ?_
    refine AllReadyH.cons rfl (fun K hK => ?_) AllReadyH.nil
    go_simp
    clear hHeld
    refine hK.out _ _ d1 (fun hHeld => ?_)
    clear hK K
    try simp only [Act.put, List.setIfInBounds_toArray, List.set_cons_zero, List.set_cons_succ]
    refine wpAnyH_ready (rs := [14]) (by kernel_rfl) (by simp) ?_
    refine AllReadyH.cons rfl (fun K hK => ?_) AllReadyH.nil
    go_simp
    refine (HD.out _ _ HJ.out HQ2.out).mono ?_; rintro e w3 ⟨v3, rfl, hown, hgrow, hnw⟩
    have HNw := Lib.hid (HNO.out v3 hnw)
    clear hnw
    obtain ⟨⟨o3, n3, cap3, rfl⟩, e0, f0, e1, HQ0⟩ := HE.out _ _ _ HQ2.out HK2.out hown hgrow
    have HQ3 := Lib.hid HQ0
    clear HQ0 hown hgrow
    clear hHeld
    refine hK.out _ _ e1 (fun hHeld => ?_)
    clear hK K
    try simp only [Act.put, List.setIfInBounds_toArray, List.set_cons_zero, List.set_cons_succ]
    refine takeH (i := 15) (d := some 19) (v := ?_) rfl rfl (by kernel_rfl) (by kernel_rfl) (by kernel_rfl) (fun _ _ _ h => h) (Or.inl ⟨by rfl, ?_⟩) hHeld ?_
    rotate_left
    · intro w' hSw; (try dsimp only at hSw); go_simp; try with_reducible rfl
    simp only [Act.put, List.setIfInBounds_toArray, List.set_cons_zero, List.set_cons_succ]
    refine takeH (i := 16) (d := some 20) (v := ?_) rfl rfl (by kernel_rfl) (by kernel_rfl) (by kernel_rfl) (fun _ _ _ h => h) (Or.inl ⟨by rfl, ?_⟩) hHeld ?_
    rotate_left
    · intro w' hSw; (try dsimp only at hSw); go_simp; try with_reducible rfl
    simp only [Act.put, List.setIfInBounds_toArray, List.set_cons_zero, List.set_cons_succ]
    refine wpAnyH_ready (rs := [17]) (by kernel_rfl) (by simp) ?_
    refine AllReadyH.cons rfl (fun K hK => ?_) AllReadyH.nil
    go_simp
    clear hHeld
    refine hK.out _ _ (HQ3.out.1.c1) (fun hHeld => ?_)
    clear hK K
    try simp only [Act.put, List.setIfInBounds_toArray, List.set_cons_zero, List.set_cons_succ]
    refine wpAnyH_done (by kernel_rfl) ?_ _
    go_wp2_with fail
    refine bodyPost_end (results_none rfl _ _ _) rfl ?_
    exact ⟨rfl, ⟨_, HQ3.out.1, HNw.out⟩, HQ3.out.2⟩
end

/-! Aq -/

section
variable {B b : Nat} {v : Value} {K : ByteArray} {l : Int} {sh : Bool} {u c s : Int} {w : World}
theorem ack_no (q : Int) (h : QR B b v K l sh u c s w) (hq : q ≤ u ∨ s < q) :
    Calls Try.prog 86 #[.pointer (some ⟨b, 0, none⟩), .int .i64 q] w fun e w' => e = .returned (.int .i64 0) ∧ w' = w := by
  have c3 := h.c3
  have c5 := h.c5
  clear h
  by_cases h1 : q ≤ u
  · clear hq
    go_enter Try.func86, Try.ntmps86
    go_wp2_with fail
    go_ret
    exact ⟨rfl, rfl⟩
  · have h2 : s < q := by omega
    clear hq
    go_enter Try.func86, Try.ntmps86
    go_wp2_with fail
    go_ret
    exact ⟨rfl, rfl⟩
set_option maxHeartbeats 1000000 in
theorem ack_yes (q : Int) (h : QR B b v K l sh u c s w) (hK : K.size ≤ 2048) (l0 : 0 ≤ l) (l1 : l ≤ 9007199254740992) (u0 : 0 ≤ u) (q1 : q ≤ 9223372036854775807) (hq : u < q) (hs : q ≤ s) (j : Nat) (hj : (j : Int) = min q l - (l - (K.size : Int))) (hjK : j ≤ K.size) :
    Calls Try.prog 86 #[.pointer (some ⟨b, 0, none⟩), .int .i64 q] w fun e w' => e = .returned (.int .i64 (q - u)) ∧ (∃ v', QR B b v' (K.extract j K.size) l sh q (max c q) s w' ∧ Nw w v v') ∧ Kp (b :: rw' v) w w' := by
  have HD : Hid (Calls Try.prog 95 #[.pointer (some ⟨b, 0, none⟩), .int .i64 q] w fun e w' => e = .returned (.tuple #[]) ∧ (∃ v', QR B b v' (K.extract j K.size) l sh u c s w' ∧ Nw w v v') ∧ Kp (b :: rw' v) w w') := drop_any q h hK l0 l1 (by omega) q1 j hj hjK
  have c3 := h.c3
  have c5 := h.c5
  have h1 : ¬ q ≤ u := by omega
  have h2 : ¬ s < q := by omega
  clear h hj
  generalize K.extract j K.size = K' at *
  go_enter Try.func86, Try.ntmps86
  go_wp2_with fail
  refine HD.out.mono ?_; rintro e w1 ⟨rfl, ⟨v1, hQ1, hn1⟩, hk1⟩
  have HN1 := Lib.hid hn1
  clear hn1
  have f3 := hQ1.free 3
  have d3 := hQ1.c3
  have Q2 := Lib.hid (hQ1.set3 q)
  have K2 := Lib.hid (hk1.setCell (p := ⟨b, 3, none⟩) (Or.inl (by simp)) (.int .i64 q))
  have e4 : (w1.setCell ⟨b, 3, none⟩ (.int .i64 q)).cell? ⟨b, 4, none⟩ = some (.int .i64 c) := Q2.out.c4
  have f4 : (w1.setCell ⟨b, 3, none⟩ (.int .i64 q)).frozen? ⟨b, 4, none⟩ = false := Q2.out.free 4
  have d4 := hQ1.c4
  have g4 := hQ1.free 4
  clear hQ1 hk1 HD
  go_wp2_with fail
  go_ret
  exact ⟨rfl, ⟨_, Q2.out.set4 _, HN1.out⟩, K2.out.setCell (Or.inl (by simp)) _⟩
end

/-- What goes out from place a on, of all that was ever written. -/
def py (A : ByteArray) (sh : Bool) (a lim mss : Int) : Pc := pz (A.extract (a - 1).toNat (bh ((A.size : Int) + 1) a lim mss - 1).toNat) ((A.size : Int) + 1) sh a lim mss

theorem ext_none (A : ByteArray) (x : Nat) : A.extract x x = ⟨#[]⟩ := by
  apply ext_list; rw [extract_list]; simp [List.drop_eq_nil_of_le, List.length_take_le]

/-! Ms -/

structure St where
  A : ByteArray
  sh : Bool
  u : Int
  c : Int
  s : Int
def st0 : St := ⟨⟨#[]⟩, false, 0, 0, 0⟩
/-- The bytes that are kept. -/
def kept (t : St) : ByteArray := t.A.extract (t.u - 1).toNat t.A.size
/-- The place behind the last byte. -/
abbrev lst (t : St) : Int := (t.A.size : Int) + 1
theorem kept_size (t : St) : (kept t).size = t.A.size - (t.u - 1).toNat := by unfold kept; simp
structure Ok (t : St) : Prop where
  u0 : 0 ≤ t.u
  uc : t.u ≤ t.c
  cs : t.c ≤ t.s
  se : t.s ≤ en (lst t) t.sh
  kk : (kept t).size ≤ 2048
theorem st0_ok : Ok st0 := ⟨by decide, by decide, by decide, by decide, by decide⟩
theorem en_le (l : Int) (sh : Bool) : l ≤ en l sh ∧ en l sh ≤ l + 1 := by unfold en; split <;> omega
theorem en_shut {l : Int} {sh : Bool} (h : l < en l sh) : sh = true := by
  cases sh
  · unfold en at h; simp at h
  · rfl
def wN (t : St) (x : ByteArray) : Nat := min x.size (rm (kept t) t.sh)
def wr (t : St) (x : ByteArray) : St := ⟨t.A ++ x.extract 0 (wN t x), t.sh, t.u, t.c, t.s⟩
def cl (t : St) : St := ⟨t.A, true, t.u, t.c, t.s⟩
def bk (t : St) : St := ⟨t.A, t.sh, t.u, t.u, t.s⟩
def nxP (t : St) (lim mss : Int) : Pc := py t.A t.sh t.c lim mss
def nxC (t : St) (lim mss : Int) : Int := t.c + plen (nxP t lim mss)
def nx (t : St) (lim mss : Int) : St := ⟨t.A, t.sh, t.u, nxC t lim mss, max t.s (nxC t lim mss)⟩
def akN (t : St) (q : Int) : Int := if q ≤ t.u ∨ t.s < q then 0 else q - t.u
def ak (t : St) (q : Int) : St := if q ≤ t.u ∨ t.s < q then t else ⟨t.A, t.sh, q, max t.c q, t.s⟩

theorem wN_size (t : St) (x : ByteArray) : (x.extract 0 (wN t x)).size = wN t x := by unfold wN; simp
theorem wN_le (t : St) (x : ByteArray) : wN t x ≤ x.size ∧ wN t x ≤ 2048 ∧ (t.sh = true → wN t x = 0) ∧ (Ok t → (kept t).size + wN t x ≤ 2048) := by
  have h := rm_le (kept t) t.sh
  refine ⟨by unfold wN; omega, by unfold wN; omega, fun e => ?_, fun o => ?_⟩
  · unfold wN rm; rw [e]; simp
  · have := o.kk
    unfold wN rm; split <;> omega
theorem wr_size (t : St) (x : ByteArray) : (wr t x).A.size = t.A.size + wN t x := by
  show (t.A ++ x.extract 0 (wN t x)).size = _
  rw [ByteArray.size_append, wN_size]
section
variable {t : St}
/-- Una is at most the place behind the last byte, or all is over. -/
theorem Ok.una (h : Ok t) : (t.u - 1).toNat ≤ t.A.size ∨ t.sh = true := by
  obtain ⟨e0, e1⟩ := en_le (lst t) t.sh
  have := h.uc; have := h.cs; have := h.se
  by_cases hs : lst t < en (lst t) t.sh
  · exact Or.inr (en_shut hs)
  · left; unfold lst at *; omega
theorem kept_wr (h : Ok t) (x : ByteArray) : kept (wr t x) = kept t ++ x.extract 0 (wN t x) := by
  have hz := wN_size t x
  rcases h.una with hu | hs
  · apply ext_list
    unfold kept wr
    dsimp only
    rw [ByteArray.data_append, Array.toList_append, extract_list, extract_list, ByteArray.data_append, Array.toList_append, List.take_of_length_le (by simp), List.take_of_length_le (by simp), List.drop_append_of_le_length (by simpa using hu)]
  · have h0 := (wN_le t x).2.2.1 hs
    have he : x.extract 0 (wN t x) = ⟨#[]⟩ := by rw [h0, ext_none]
    unfold kept wr
    dsimp only
    rw [he]
    have : t.A ++ (⟨#[]⟩ : ByteArray) = t.A := by apply ext_list; rw [ByteArray.data_append, Array.toList_append]; simp
    rw [this]
    apply ext_list; rw [ByteArray.data_append, Array.toList_append]; simp
theorem Ok.wr (h : Ok t) (x : ByteArray) : Ok (wr t x) := by
  refine ⟨h.u0, h.uc, h.cs, ?_, ?_⟩
  · have := h.se
    have e := wr_size t x
    show t.s ≤ en (lst (_root_.Go.Proofs.Ytnhcjefbiihfjaa.Oq.wr t x)) t.sh
    unfold lst en at *
    rw [e]; omega
  · rw [kept_wr h, ByteArray.size_append, wN_size]; exact (wN_le t x).2.2.2 h
theorem Ok.cl (h : Ok t) : Ok (cl t) := by
  refine ⟨h.u0, h.uc, h.cs, ?_, h.kk⟩
  have := h.se
  have e := (en_le (lst t) t.sh).2
  show t.s ≤ en (lst t) true
  unfold en at *; simp; omega
theorem Ok.bk (h : Ok t) : Ok (bk t) := ⟨h.u0, Int.le_refl _, by show t.u ≤ t.s; have := h.uc; have := h.cs; omega, h.se, h.kk⟩
theorem Ok.start (h : Ok t) (a : Int) (ha : t.u ≤ a) : 0 < a → lst t - ((kept t).size : Int) ≤ a := by
  intro h0
  rw [kept_size]
  obtain ⟨e0, e1⟩ := en_le (lst t) t.sh
  have := h.uc; have := h.cs; have := h.se; have := h.u0
  unfold lst at *
  omega
theorem py_plen (A : ByteArray) (sh : Bool) (a lim mss : Int) (ha : 0 ≤ a) (hA : a ≤ en ((A.size : Int) + 1) sh) : 0 ≤ plen (py A sh a lim mss) ∧ a + plen (py A sh a lim mss) ≤ en ((A.size : Int) + 1) sh ∧ (py A sh a lim mss).body.size ≤ A.size := by
  obtain ⟨e0, e1⟩ := en_le ((A.size : Int) + 1) sh
  unfold py pz
  split
  · rename_i hg
    obtain ⟨g1, g2⟩ := hg
    split
    · rename_i h0
      refine ⟨by decide, ?_, Nat.zero_le _⟩
      show a + 1 ≤ _
      omega
    · rename_i h0
      have hz : (A.extract (a - 1).toNat (bh ((A.size : Int) + 1) a lim mss - 1).toNat).size = (bh ((A.size : Int) + 1) a lim mss - a).toNat := by
        unfold bh; simp; omega
      have hb0 : a ≤ bh ((A.size : Int) + 1) a lim mss := by unfold bh; omega
      have hb1 : bh ((A.size : Int) + 1) a lim mss ≤ (A.size : Int) + 1 := by unfold bh; omega
      unfold plen
      dsimp only
      rw [hz]
      refine ⟨by split <;> split <;> omega, ?_, by omega⟩
      by_cases hf : (sh && decide (bh ((A.size : Int) + 1) a lim mss = (A.size : Int) + 1) && decide (bh ((A.size : Int) + 1) a lim mss < lim)) = true
      · rw [if_pos hf]
        simp only [Bool.and_eq_true, decide_eq_true_eq] at hf
        have : en ((A.size : Int) + 1) sh = (A.size : Int) + 2 := by unfold en; rw [if_pos hf.1.1]; omega
        simp; omega
      · rw [if_neg hf]; simp; omega
  · refine ⟨by decide, ?_, Nat.zero_le _⟩
    show a + 0 ≤ _
    omega
theorem Ok.nx (h : Ok t) (lim mss : Int) : Ok (nx t lim mss) := by
  have := h.u0; have := h.uc; have := h.cs; have := h.se
  obtain ⟨p0, p1, _⟩ := py_plen t.A t.sh t.c lim mss (by omega) (by unfold lst at *; omega)
  refine ⟨h.u0, ?_, ?_, ?_, h.kk⟩
  · show t.u ≤ nxC t lim mss; unfold nxC nxP; omega
  · show nxC t lim mss ≤ max t.s (nxC t lim mss); omega
  · show max t.s (nxC t lim mss) ≤ en (lst t) t.sh; unfold nxC nxP lst at *; omega
theorem px_py (h : Ok t) (a lim mss : Int) (ha : t.u ≤ a) : px (kept t) (lst t) t.sh a lim mss = py t.A t.sh a lim mss := by
  unfold px py pz
  split
  · rename_i hg
    obtain ⟨g1, g2⟩ := hg
    split
    · rfl
    · rename_i h0
      congr 1
      have hs := h.start a ha (by have := h.u0; omega)
      have hz := kept_size t
      obtain ⟨e0, e1⟩ := en_le (lst t) t.sh
      have := h.u0
      have hb0 : a ≤ bh (lst t) a lim mss := by unfold bh lst at *; omega
      have hb1 : bh (lst t) a lim mss ≤ lst t := by unfold bh lst at *; omega
      generalize bh (lst t) a lim mss = z at *
      unfold lst at *
      apply ext_list
      have hk : ((kept t).size : Int) = (t.A.size : Int) - ((t.u - 1).toNat : Int) := by omega
      rw [extract_list, extract_list, hk]
      unfold kept
      rw [extract_list]
      rw [List.take_of_length_le (i := t.A.size) (by simp), List.drop_take, List.drop_take, List.drop_drop]
      congr 1
      · omega
      · congr 1; omega
  · rfl
theorem kept_ak (h : Ok t) (q : Int) (hq : t.u < q) (hs : q ≤ t.s) (j : Nat) (hj : (j : Int) = min q (lst t) - (lst t - ((kept t).size : Int))) : j ≤ (kept t).size ∧ kept ⟨t.A, t.sh, q, max t.c q, t.s⟩ = (kept t).extract j (kept t).size := by
  have hz := kept_size t
  obtain ⟨e0, e1⟩ := en_le (lst t) t.sh
  have := h.u0; have := h.se
  unfold lst at *
  refine ⟨by omega, ?_⟩
  apply ext_list
  rw [extract_list]
  unfold kept
  dsimp only
  rw [extract_list, extract_list]
  rw [List.take_of_length_le (i := t.A.size) (by simp), List.take_of_length_le (by simp), List.drop_drop]
  by_cases hq2 : q ≤ (t.A.size : Int) + 1
  · congr 1; omega
  · rw [List.drop_eq_nil_of_le (by simp; omega), List.drop_eq_nil_of_le (by simp; omega)]
theorem Ok.ak (h : Ok t) (q : Int) : Ok (ak t q) := by
  unfold _root_.Go.Proofs.Ytnhcjefbiihfjaa.Oq.ak
  split
  · exact h
  · rename_i hb
    have := h.u0; have := h.uc; have := h.cs; have := h.se
    have hz := kept_size t
    have hz2 := kept_size ⟨t.A, t.sh, q, max t.c q, t.s⟩
    dsimp only at hz2
    have := h.kk
    refine ⟨?_, ?_, ?_, h.se, ?_⟩
    · show 0 ≤ q; omega
    · show q ≤ max t.c q; omega
    · show max t.c q ≤ t.s; omega
    · omega
theorem room_eq (h : Ok t) : (rm (kept t) t.sh : Int) = if t.sh = true then 0 else 2048 - ((t.A.size : Int) - min (t.A.size : Int) (max 0 (t.u - 1))) := by
  have hz := kept_size t
  have := h.kk
  unfold rm
  cases t.sh
  · simp; omega
  · simp
end

/-! Tq -/

abbrev OT (b : Nat) (v : Value) (t : St) (W : World) : Prop := QR b b v (kept t) (lst t) t.sh t.u t.c t.s W
def nxG (t : St) (lim mss : Int) : Bool := decide (go? (lst t) t.sh t.c lim mss)
def fiP (t : St) (mss : Int) : Pc := py t.A t.sh t.u t.s mss
def fiG (t : St) (mss : Int) : Bool := decide (go? (lst t) t.sh t.u t.s mss)
def rmI (t : St) : Int := (rm (kept t) t.sh : Int)
def enI (t : St) : Int := en (lst t) t.sh
section
variable {b : Nat} {v : Value} {t : St} {w : World}
theorem q_write (x : ByteArray) (h : OT b v t w) (ok : Ok t) (hA : t.A.size ≤ 4503599627370000) (hx : x.size ≤ maxLen) :
    Calls Try.prog 25 #[.pointer (some ⟨b, 0, none⟩), .string x] w fun e w' => e = .returned (.int .i64 (wN t x : Int)) ∧ (∃ v', OT b v' (wr t x) w' ∧ Nw w v v') ∧ Kp (b :: rw' v) w w' := by
  refine (write_any x h ok.kk (by unfold lst; omega) (by unfold lst; omega) hx (wN t x) rfl).mono ?_
  rintro e w' ⟨rfl, ⟨v', hq, hnw⟩, hk⟩
  refine ⟨rfl, ⟨v', ?_, hnw⟩, hk⟩
  have e1 := kept_wr ok x
  have e2 : lst (wr t x) = lst t + (wN t x : Int) := by unfold lst; rw [wr_size]; omega
  show QR b b v' (kept (wr t x)) (lst (wr t x)) t.sh t.u t.c t.s w'
  rw [e1, e2]; exact hq
theorem q_close (h : OT b v t w) : Calls Try.prog 47 #[.pointer (some ⟨b, 0, none⟩)] w fun e w' => e = .returned (.tuple #[]) ∧ OT b v (cl t) w' ∧ Kp [b] w w' := close_any h
theorem q_back (h : OT b v t w) : Calls Try.prog 44 #[.pointer (some ⟨b, 0, none⟩)] w fun e w' => e = .returned (.tuple #[]) ∧ OT b v (bk t) w' ∧ Kp [b] w w' := back_any h
theorem bnds (ok : Ok t) (hA : t.A.size ≤ 4503599627370496) : 0 ≤ lst t ∧ lst t ≤ 4503599627370497 ∧ 0 ≤ t.u ∧ t.u ≤ t.c ∧ t.c ≤ t.s ∧ t.s ≤ 4503599627370498 ∧ 0 ≤ enI t ∧ enI t ≤ 4503599627370498 ∧ t.s ≤ enI t := by
  have := ok.u0; have := ok.uc; have := ok.cs; have := ok.se
  obtain ⟨e0, e1⟩ := en_le (lst t) t.sh
  unfold enI lst at *
  omega
theorem q_next (lim mss : Int) (h : OT b v t w) (ok : Ok t) (hA : t.A.size ≤ 4503599627370496) (m1 : mss ≤ 9223372036854775807) :
    Calls Try.prog 50 #[.pointer (some ⟨b, 0, none⟩), .int .i64 lim, .int .i64 mss] w fun e w' => e = .returned (.tuple #[pvv (nxP t lim mss), .bool (nxG t lim mss)]) ∧ OT b v (nx t lim mss) w' ∧ Kp [b] w w' := by
  obtain ⟨b1, b2, b3, b4, b5, b6, _⟩ := bnds ok hA
  exact next_any lim mss h ok.kk b1 (by omega) (by omega) (by omega) (ok.start _ ok.uc) m1 (nxP t lim mss) (px_py ok _ _ _ ok.uc).symm (nxC t lim mss) rfl (nxG t lim mss) rfl
theorem q_first (mss : Int) (h : OT b v t w) (ok : Ok t) (hA : t.A.size ≤ 4503599627370496) (m1 : mss ≤ 9223372036854775807) :
    Calls Try.prog 69 #[.pointer (some ⟨b, 0, none⟩), .int .i64 mss] w fun e w' => e = .returned (.tuple #[pvv (fiP t mss), .bool (fiG t mss)]) ∧ Below w.heap.size w w' := by
  obtain ⟨b1, b2, b3, b4, b5, b6, _⟩ := bnds ok hA
  exact first_any mss h ok.kk b1 (by omega) b3 (ok.start _ (Int.le_refl _)) m1 (fiP t mss) (px_py ok _ _ _ (Int.le_refl _)).symm (fiG t mss) rfl
theorem q_ack (q : Int) (h : OT b v t w) (ok : Ok t) (hA : t.A.size ≤ 4503599627370496) (q1 : q ≤ 9223372036854775807) :
    Calls Try.prog 86 #[.pointer (some ⟨b, 0, none⟩), .int .i64 q] w fun e w' => e = .returned (.int .i64 (akN t q)) ∧ (∃ v', OT b v' (ak t q) w' ∧ Nw w v v') ∧ Kp (b :: rw' v) w w' := by
  obtain ⟨b1, b2, b3, b4, b5, b6, _⟩ := bnds ok hA
  unfold akN ak
  by_cases hq : q ≤ t.u ∨ t.s < q
  · rw [if_pos hq, if_pos hq]
    refine (ack_no q h hq).mono ?_
    rintro e w' ⟨rfl, rfl⟩
    exact ⟨rfl, ⟨v, h, Nw.refl _ _⟩, Kp.refl _ _⟩
  · rw [if_neg hq, if_neg hq]
    have hs := ok.start q (by omega) (by omega)
    obtain ⟨e0, e1⟩ := en_le (lst t) t.sh
    have hz := kept_size t
    obtain ⟨j, hj⟩ : ∃ j : Nat, (j : Int) = min q (lst t) - (lst t - ((kept t).size : Int)) := ⟨(min q (lst t) - (lst t - ((kept t).size : Int))).toNat, by unfold lst at *; omega⟩
    obtain ⟨hj1, hj2⟩ := kept_ak ok q (by omega) (by omega) j hj
    refine (ack_yes q h ok.kk b1 (by omega) b3 q1 (by omega) (by omega) j hj hj1).mono ?_
    rintro e w' ⟨rfl, ⟨v', hq', hnw⟩, hk⟩
    refine ⟨rfl, ⟨v', ?_, hnw⟩, hk⟩
    show QR b b v' (kept ⟨t.A, t.sh, q, max t.c q, t.s⟩) (lst t) t.sh q (max t.c q) t.s w'
    rw [hj2]; exact hq'
theorem q_una (h : OT b v t w) : Calls Try.prog 66 #[.pointer (some ⟨b, 0, none⟩)] w fun e w' => e = .returned (.int .i64 t.u) ∧ w' = w := una_any h
theorem q_cur (h : OT b v t w) : Calls Try.prog 65 #[.pointer (some ⟨b, 0, none⟩)] w fun e w' => e = .returned (.int .i64 t.c) ∧ w' = w := cur_any h
theorem q_sent (h : OT b v t w) : Calls Try.prog 34 #[.pointer (some ⟨b, 0, none⟩)] w fun e w' => e = .returned (.int .i64 t.s) ∧ w' = w := sent_any h
theorem q_end (h : OT b v t w) (hA : t.A.size ≤ 4503599627370496) : Calls Try.prog 68 #[.pointer (some ⟨b, 0, none⟩)] w fun e w' => e = .returned (.int .i64 (enI t)) ∧ w' = w :=
  end_any h (by unfold lst; omega) (by unfold lst; omega) _ rfl
theorem q_room (h : OT b v t w) (ok : Ok t) : Calls Try.prog 46 #[.pointer (some ⟨b, 0, none⟩)] w fun e w' => e = .returned (.int .i64 (rmI t)) ∧ w' = w :=
  room_any h ok.kk _ (by have := ok.kk; unfold rmI rm; cases t.sh <;> simp; omega)

end
end Go.Proofs.Ytnhcjefbiihfjaa.Oq
