/-
  What the closure of FragWhole sees: the boxes that it captures, the numbers that are left, the map of what was seen, the table.
-/
import Derived.Test.YtfnmcnbiahfnfaaMw
namespace Go.Proofs.Ytfnmcnbiahfnfaa
open Go.RowKit Go.Maps
set_option linter.unusedVariables false
set_option linter.unusedSimpArgs false

theorem law3 : Keyed Try.prog 3 := int_keyed Try.underlying3
theorem zero3 (w : World) : (zeroValue 3).run Try.prog w = .ok (.int .i64 0) w := by kernel_rfl
theorem key3 {k : Nat} (h : k ≤ 9000) : keyOf Try.prog 3 (.int .i64 (k : Int)) = some (.int .i64 (k : Int)) := keyOf_int_mk Try.underlying3 (WalkArith.wf_i64 (by omega))
def b01 (b : Bool) : Int := if b then 1 else 0
theorem wf01 (b : Bool) : (Lit.int .i64 (b01 b)).wf = true := by cases b <;> decide
/-- A map of numbers that says of each below N whether it was seen. -/
def SM (W : World) (sm N : Nat) (S : Nat → Bool) : Prop :=
  ∃ (n : Nat) (D : DataW Unit), W.ownsMap Try.prog 3 (plainElem Try.prog 3) sm n D ∧ Maps.size D = cntT (fun k => Maps.has D (.int .i64 (k : Int))) N ∧ ∀ k, k < N → ∀ c, D.atKey (.int .i64 (k : Int)) (.lit (.int .i64 0)) = .lit (.int .i64 c) → c = b01 (S k)
theorem SM.lt {W : World} {sm N : Nat} {S : Nat → Bool} (h : SM W sm N S) : sm < W.heap.size := by obtain ⟨n, D, h, _⟩ := h; exact h.lt
theorem SM.keep {W W' : World} {sm N : Nat} {S : Nat → Bool} (h : SM W sm N S) (e : W'.heap[sm]? = W.heap[sm]?) : SM W' sm N S := by
  obtain ⟨n, D, ⟨es, c, h1, h2⟩, h3⟩ := h
  exact ⟨n, D, ⟨es, c, e.trans h1, h2⟩, h3⟩
theorem SM.congr {W : World} {sm N : Nat} {S S' : Nat → Bool} (h : SM W sm N S) (e : ∀ k, k < N → S' k = S k) : SM W sm N S' := by
  obtain ⟨n, D, h1, h2, h3⟩ := h
  exact ⟨n, D, h1, h2, fun k hk c hc => by rw [e k hk]; exact h3 k hk c hc⟩
theorem SM.new (w : World) (N : Nat) : SM (w.alloc (.map #[] 0)) w.heap.size N (fun _ => false) :=
  ⟨0, .map [], World.ownsMap_made w Try.prog 3 _, (cntT_none N).symm, fun k hk c hc => by
    have hc : (DataW.lit (.int .i64 0) : DataW Unit) = .lit (.int .i64 c) := hc
    injection hc with hc
    injection hc with _ hc
    exact hc.symm⟩
theorem SM.look {W : World} {sm N : Nat} {S : Nat → Bool} (h : SM W sm N S) (hN : N ≤ 8000) {k : Nat} (hk : k < N) : (Instr.lookup 59 (.map (some sm)) (.int .i64 (k : Int)) false).run Try.prog W = .ok (.int .i64 (b01 (S k))) W := by
  obtain ⟨n, D, h1, h2, h3⟩ := h
  obtain ⟨c, hr, hat, _⟩ := h1.lookup_int law3 Try.underlying59 Try.underlying3 (zero3 W) (key3 (k := k) (by omega))
  rw [hr, h3 k hk c hat]
theorem lit_inj {a b : Nat} (h : (Lit.int .i64 (a : Int)) = .int .i64 (b : Int)) : a = b := by injection h with _ h; omega
theorem SM.put {W : World} {sm N : Nat} {S : Nat → Bool} (h : SM W sm N S) (hN : N ≤ 8000) {k : Nat} (hk : k < N) (b : Bool) :
    ∃ W', (Instr.mapUpdate 59 (.map (some sm)) (.int .i64 (k : Int)) (.int .i64 (b01 b))).run Try.prog W = .ok () W' ∧ SM W' sm N (fun i => if i = k then b else S i) ∧ Kp [sm] W W' := by
  obtain ⟨n, D, h1, h2, h3⟩ := h
  have hle : Maps.size D ≤ N := by rw [h2]; exact cntT_le _ _
  have ht : W.ownsMap Try.prog 3 (plainElem Try.prog 3) sm (Maps.size D) D := by
    obtain ⟨es, c, q1, q2, q3, rfl⟩ := h1
    refine ⟨es, c, q1, q2, ?_, rfl⟩
    rw [Maps.size_eq, length_sorted]; simp
  have hkey := key3 (k := k) (by omega)
  obtain ⟨W', hr, ho, hg⟩ := ht.update law3 Try.underlying59 (by unfold maxLen; omega) hkey (plainElem_int Try.underlying3 (wf01 b))
  have hl := law3.key hkey
  refine ⟨W', hr, ⟨_, _, ho, ?_, fun i hi c hc => ?_⟩, ⟨hg.os, hg.tape, hg.output, hg.size, fun j hj hn => hg.block j hj (fun e => hn (by simpa using e))⟩⟩
  · have e : cntT (fun j => Maps.has (D.put (.int .i64 (k : Int)) (.lit (.int .i64 (b01 b)))) (.int .i64 (j : Int))) N = cntT (fun i => if i = k then true else Maps.has D (.int .i64 (i : Int))) N := by
      refine cntT_congr fun i hi => ?_
      by_cases hik : i = k
      · rw [if_pos hik, hik]; exact Maps.has_put_same h1.isMap hl _
      · rw [if_neg hik]; exact Maps.has_put_other (fun c => hik (lit_inj c)) _
    rw [e, cntT_set _ k N hk, ← h2, Maps.size_put (h1.tidy law3)]
    split <;> rfl
  · by_cases hik : i = k
    · show c = b01 (if i = k then b else S i)
      rw [if_pos hik]
      rw [hik, Maps.atKey_put_same h1.isMap hl] at hc
      injection hc with hc
      injection hc with _ hc
      exact hc.symm
    · show c = b01 (if i = k then b else S i)
      rw [if_neg hik]
      rw [Maps.atKey_put_other (fun c => hik (lit_inj c))] at hc
      exact h3 i hi c hc

/-- Where all of it lies. -/
structure Geo where
  pb : Nat
  ab : Nat
  qb : Nat
  tx : Nat
  al : Nat
  sx : Nat
  lf : Nat
  tb : Nat
  mb : Nat
  g : Nat
  cap : Nat
  sm : Nat
  acap : Nat
  ao : Option Addr
def Geo.fx (G : Geo) : List Nat := [G.pb, G.qb, G.ab, G.tx, G.al, G.sx, G.g]
structure GeoOk (G : Geo) (base : Nat) : Prop where
  lf : base ≤ G.lf
  lfx : G.lf ∉ G.fx
  lsm : G.lf ≠ G.sm
  ltb : G.lf ≠ G.tb
  sm : base ≤ G.sm
  smx : G.sm ∉ G.fx
  stb : G.sm ≠ G.tb
/-- What stays. -/
structure FX (G : Geo) (p q : Pk) (R1 n1 R2 n2 : Nat) (W : World) : Prop where
  bp : PB G.pb p W
  bq : PB G.qb q W
  a : W.heap[G.ab]? = some (.cells #[.slice G.ao n1 G.acap] 25 (0, 0))
  t : W.heap[G.tx]? = some (.cells #[.pointer (some ⟨G.tb, 0, none⟩)] 32 (0, 0))
  al : W.heap[G.al]? = some (.cells #[.slice (some ⟨G.g, 0, none⟩) (n1 + n2) G.cap] 25 (0, 0))
  sx : W.heap[G.sx]? = some (.cells #[.map (some G.sm)] 59 (0, 0))
  row : ∀ k x, (pks p R1 n1 ++ pks q R2 n2)[k]? = some x → W.rangeAt G.g (k * 9) (pcl x)
  glt : G.g < W.heap.size
section
variable {G : Geo} {p q : Pk} {R1 n1 R2 n2 : Nat} {W W' : World}
theorem FX.lt (h : FX G p q R1 n1 R2 n2 W) : ∀ k ∈ G.fx, k < W.heap.size := fun k hk => by
  simp only [Geo.fx, List.mem_cons, List.not_mem_nil, or_false] at hk
  rcases hk with rfl | rfl | rfl | rfl | rfl | rfl | rfl
  · exact h.bp.lt
  · exact h.bq.lt
  · exact lt_of_heap h.a
  · exact lt_of_heap h.t
  · exact lt_of_heap h.al
  · exact lt_of_heap h.sx
  · exact h.glt
theorem FX.keep (h : FX G p q R1 n1 R2 n2 W) (hs : W.heap.size ≤ W'.heap.size) (e : ∀ k ∈ G.fx, W'.heap[k]? = W.heap[k]?) : FX G p q R1 n1 R2 n2 W' :=
  ⟨(e _ (by simp [Geo.fx])).trans h.bp, (e _ (by simp [Geo.fx])).trans h.bq, (e _ (by simp [Geo.fx])).trans h.a, (e _ (by simp [Geo.fx])).trans h.t, (e _ (by simp [Geo.fx])).trans h.al, (e _ (by simp [Geo.fx])).trans h.sx, fun k x hx j v hv => by
    rw [World.cell?_of_block (w := W) (a := ⟨G.g, k * 9 + j, none⟩) (e _ (by simp [Geo.fx]))]
    exact h.row k x hx j v hv, Nat.lt_of_lt_of_le h.glt hs⟩
theorem FX.kp {bs : List Nat} (h : FX G p q R1 n1 R2 n2 W) (hk : Kp bs W W') (hn : ∀ k ∈ G.fx, k ∉ bs) : FX G p q R1 n1 R2 n2 W' :=
  h.keep hk.size fun k hm => hk.block k (h.lt k hm) (hn k hm)
end
def LF (G : Geo) (x y : Int) (W : World) : Prop := W.heap[G.lf]? = some (.cells #[.int .i64 x, .int .i64 y] 58 (0, 0))
theorem LF.lt {G : Geo} {x y : Int} {W : World} (h : LF G x y W) : G.lf < W.heap.size := lt_of_heap h
theorem LF.set0 {G : Geo} {x y : Int} {W : World} (h : LF G x y W) (z : Int) : LF G z y (W.setCell ⟨G.lf, 0, none⟩ (.int .i64 z)) := Joins.block_setCell (i := 0) h (.int .i64 z)
theorem LF.set1 {G : Geo} {x y : Int} {W : World} (h : LF G x y W) (z : Int) : LF G x z (W.setCell ⟨G.lf, 1, none⟩ (.int .i64 z)) := Joins.block_setCell (i := 1) h (.int .i64 z)
theorem LF.c0 {G : Geo} {x y : Int} {W : World} (h : LF G x y W) : W.cell? ⟨G.lf, 0, none⟩ = some (.int .i64 x) := Joins.cell_of_block h 0
theorem LF.c1 {G : Geo} {x y : Int} {W : World} (h : LF G x y W) : W.cell? ⟨G.lf, 1, none⟩ = some (.int .i64 y) := Joins.cell_of_block h 1
theorem LF.free {G : Geo} {x y : Int} {W : World} (h : LF G x y W) (i : Nat) : W.frozen? ⟨G.lf, i, none⟩ = false := Joins.unfrozen_of_block h i
theorem LF.kp {bs : List Nat} {G : Geo} {x y : Int} {W W' : World} (h : LF G x y W) (hk : Kp bs W W') (hn : G.lf ∉ bs) : LF G x y W' := (hk.block _ h.lt hn).trans h
theorem SM.kp {bs : List Nat} {W W' : World} {sm N : Nat} {S : Nat → Bool} (h : SM W sm N S) (hk : Kp bs W W') (hn : sm ∉ bs) : SM W' sm N S := h.keep (hk.block _ h.lt hn)

/-- The table, and what it holds of either packet. -/
structure TA (G : Geo) (p q : Pk) (R1 n1 R2 n2 base : Nat) (J1 J2 : Nat → Bool) (W : World) (A : List Ent) : Prop where
  tab : Tab W G.tb G.mb A
  h1 : Half p R1 n1 J1 (abs A)
  h2 : Half q R2 n2 J2 (abs A)
  of2 : Of2 (nmOf p) (nmOf q) (abs A)
  ap : ∀ k ∈ G.mb :: blks A, base ≤ k ∧ k ∉ G.fx ∧ k ≠ G.lf ∧ k ≠ G.sm
section
variable {G : Geo} {p q : Pk} {R1 n1 R2 n2 base : Nat} {J1 J2 : Nat → Bool} {W W' : World} {A A' : List Ent}
theorem TA.kp {bs : List Nat} (h : TA G p q R1 n1 R2 n2 base J1 J2 W A) (hk : Kp bs W W') (h1 : G.tb ∉ bs) (h2 : ∀ k ∈ G.mb :: blks A, k ∉ bs) : TA G p q R1 n1 R2 n2 base J1 J2 W' A :=
  ⟨h.tab.kp hk h1 (h2 _ (by simp)) (fun k hm => h2 k (by simp [hm])), h.h1, h.h2, h.of2, h.ap⟩
theorem TA.apart (h : TA G p q R1 n1 R2 n2 base J1 J2 W A) (hb : base ≤ W.heap.size) (hx : ∀ k ∈ G.fx, k < W.heap.size) (hl : G.lf < W.heap.size) (hm : G.sm < W.heap.size) (hs : ∀ k ∈ blks A', k ∈ blks A ∨ W.heap.size ≤ k) : ∀ k ∈ G.mb :: blks A', base ≤ k ∧ k ∉ G.fx ∧ k ≠ G.lf ∧ k ≠ G.sm := fun k hk => by
  rcases List.mem_cons.1 hk with rfl | hk
  · exact h.ap _ (by simp)
  · rcases hs k hk with h1 | h1
    · exact h.ap k (by simp [h1])
    · exact ⟨by omega, fun hc => by have := hx k hc; omega, by omega, by omega⟩
/-- A piece of the first comes: it was the last; or not. -/
theorem TA.full0 {mtu : Int} (h : TA G p q R1 n1 R2 n2 base J1 J2 W A) (F : Frm p mtu R1 n1) (hne : nmOf p ≠ nmOf q) {j : Nat} (hj : j < n1) (hf : ∀ i, i < n1 → (J1 i || decide (i = j)) = true) :
    (inM (abs A) (pk p R1 j)).1 = (p, true, 0) ∧ ∀ W' A', Tab W' G.tb G.mb A' → abs A' = (inM (abs A) (pk p R1 j)).2 → (∀ k ∈ G.mb :: blks A', base ≤ k ∧ k ∉ G.fx ∧ k ≠ G.lf ∧ k ≠ G.sm) → TA G p q R1 n1 R2 n2 base (fun _ => false) J2 W' A' := by
  obtain ⟨h1 | h1, h2, h3⟩ := h.h1.step F h.of2 (Or.inl rfl) hj
  · refine ⟨h1.2.1, fun W' A' ht ha hap => ⟨ht, by rw [ha]; exact h1.2.2, by rw [ha]; exact h.h2.of_look (h3 _ (Ne.symm hne)), by rw [ha]; exact h2, hap⟩⟩
  · exact absurd hf h1.1
theorem TA.more0 {mtu : Int} (h : TA G p q R1 n1 R2 n2 base J1 J2 W A) (F : Frm p mtu R1 n1) (hne : nmOf p ≠ nmOf q) {j : Nat} (hj : j < n1) (hf : ¬ ∀ i, i < n1 → (J1 i || decide (i = j)) = true) :
    (inM (abs A) (pk p R1 j)).1 = (pz, false, 0) ∧ ∀ W' A', Tab W' G.tb G.mb A' → abs A' = (inM (abs A) (pk p R1 j)).2 → (∀ k ∈ G.mb :: blks A', base ≤ k ∧ k ∉ G.fx ∧ k ≠ G.lf ∧ k ≠ G.sm) → TA G p q R1 n1 R2 n2 base (fun i => J1 i || decide (i = j)) J2 W' A' := by
  obtain ⟨h1 | h1, h2, h3⟩ := h.h1.step F h.of2 (Or.inl rfl) hj
  · exact absurd h1.1 hf
  · refine ⟨h1.2.1, fun W' A' ht ha hap => ⟨ht, by rw [ha]; exact h1.2.2, by rw [ha]; exact h.h2.of_look (h3 _ (Ne.symm hne)), by rw [ha]; exact h2, hap⟩⟩
theorem TA.full1 {mtu : Int} (h : TA G p q R1 n1 R2 n2 base J1 J2 W A) (F : Frm q mtu R2 n2) (hne : nmOf p ≠ nmOf q) {j : Nat} (hj : j < n2) (hf : ∀ i, i < n2 → (J2 i || decide (i = j)) = true) :
    (inM (abs A) (pk q R2 j)).1 = (q, true, 0) ∧ ∀ W' A', Tab W' G.tb G.mb A' → abs A' = (inM (abs A) (pk q R2 j)).2 → (∀ k ∈ G.mb :: blks A', base ≤ k ∧ k ∉ G.fx ∧ k ≠ G.lf ∧ k ≠ G.sm) → TA G p q R1 n1 R2 n2 base J1 (fun _ => false) W' A' := by
  obtain ⟨h1 | h1, h2, h3⟩ := h.h2.step F h.of2 (Or.inr rfl) hj
  · refine ⟨h1.2.1, fun W' A' ht ha hap => ⟨ht, by rw [ha]; exact h.h1.of_look (h3 _ hne), by rw [ha]; exact h1.2.2, by rw [ha]; exact h2, hap⟩⟩
  · exact absurd hf h1.1
theorem TA.more1 {mtu : Int} (h : TA G p q R1 n1 R2 n2 base J1 J2 W A) (F : Frm q mtu R2 n2) (hne : nmOf p ≠ nmOf q) {j : Nat} (hj : j < n2) (hf : ¬ ∀ i, i < n2 → (J2 i || decide (i = j)) = true) :
    (inM (abs A) (pk q R2 j)).1 = (pz, false, 0) ∧ ∀ W' A', Tab W' G.tb G.mb A' → abs A' = (inM (abs A) (pk q R2 j)).2 → (∀ k ∈ G.mb :: blks A', base ≤ k ∧ k ∉ G.fx ∧ k ≠ G.lf ∧ k ≠ G.sm) → TA G p q R1 n1 R2 n2 base J1 (fun i => J2 i || decide (i = j)) W' A' := by
  obtain ⟨h1 | h1, h2, h3⟩ := h.h2.step F h.of2 (Or.inr rfl) hj
  · exact absurd h1.1 hf
  · refine ⟨h1.2.1, fun W' A' ht ha hap => ⟨ht, by rw [ha]; exact h.h1.of_look (h3 _ hne), by rw [ha]; exact h1.2.2, by rw [ha]; exact h2, hap⟩⟩
end
/-- How many are left; which were seen. -/
def lft (n : Nat) (J : Nat → Bool) : Int := (n : Int) - (cntT J n : Int)
def sn (n1 : Nat) (J1 J2 : Nat → Bool) : Nat → Bool := fun k => if k < n1 then J1 k else J2 (k - n1)
theorem lft_bound (n : Nat) (J : Nat → Bool) : 0 ≤ lft n J ∧ lft n J ≤ n := by have := cntT_le J n; unfold lft; omega
theorem lft_none (n : Nat) : lft n (fun _ => false) = n := by unfold lft; rw [cntT_none]; omega
theorem or_set (J : Nat → Bool) (j : Nat) : (fun i => J i || decide (i = j)) = fun i => if i = j then true else J i := by
  funext i
  by_cases h : i = j
  · simp [h]
  · simp [h]
theorem lft_add {n : Nat} {J : Nat → Bool} {j : Nat} (hj : j < n) (h : J j = false) : lft n (fun i => J i || decide (i = j)) = lft n J - 1 := by
  unfold lft
  rw [or_set, cntT_set J j n hj, h]
  simp; omega
theorem lft_pos {n : Nat} {J : Nat → Bool} (h : ¬ ∀ i, i < n → J i = true) : 1 ≤ lft n J := by
  have h1 := cntT_le J n
  have h2 : cntT J n ≠ n := fun e => h ((cntT_full n).1 e)
  unfold lft; omega
theorem lft_zero {n : Nat} {J : Nat → Bool} (h : ∀ i, i < n → J i = true) : lft n J = 0 := by
  unfold lft; rw [(cntT_full n).2 h]; omega
theorem same_of {J : Nat → Bool} {j : Nat} (h : J j = true) : (fun i => J i || decide (i = j)) = J := by
  funext i
  by_cases hi : i = j
  · rw [hi, h]; rfl
  · simp [hi]
/-- All that the closure sees. -/
structure WS (G : Geo) (p q : Pk) (R1 n1 R2 n2 base : Nat) (J1 J2 : Nat → Bool) (W : World) : Prop where
  fx : FX G p q R1 n1 R2 n2 W
  lf : LF G (lft n1 J1) (lft n2 J2) W
  sm : SM W G.sm (n1 + n2) (sn n1 J1 J2)
  tab : ∃ A, TA G p q R1 n1 R2 n2 base J1 J2 W A
theorem info24a : (Try.prog.info? 24).map (fun i => (i.zero, i.size)) = some (some (.agg pzc), 9) := by kernel_rfl
theorem run_alloc24 (w : World) : (Instr.alloc 24 true (.tuple #[])).run Try.prog w = .ok (.pointer (some ⟨w.heap.size, 0, none⟩)) (w.alloc (.cells pzc 24)) := by
  have z : Try.t24.zero = some (.agg pzc) := by kernel_rfl
  simp [Instr.alloc, newVar, zeroValue, z, Value.cells, go_sem]
theorem wp_alloc24 {op : Oper} {a : Act} {w : World} {K : Act → World → Prop} {Q : Exit → Act → World → Prop} (ho : op.op = .alloc 24)
    (h : K (a.put op.dst (.pointer (some ⟨w.heap.size, 0, none⟩))) (w.alloc (.cells pzc 24))) : op.wp Try.prog a w K Q := by
  unfold Oper.wp execOp
  simp only [ho, Sem.run_bind, run_alloc24 w, Result.andThen_ok, Sem.run_pure]
  exact h
end Go.Proofs.Ytfnmcnbiahfnfaa
