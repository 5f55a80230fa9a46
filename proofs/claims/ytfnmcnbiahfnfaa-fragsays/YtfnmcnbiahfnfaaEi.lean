/-
  The document's In: one more is open; its fragments are stored; the end.
-/
import Derived.Test.YtfnmcnbiahfnfaaEf
namespace Go.Proofs.Ytfnmcnbiahfnfaa
open Go.RowKit
set_option linter.unusedVariables false
set_option linter.unusedSimpArgs false

theorem run_build81 (w : World) : (Instr.build 81 #[]).run Try.prog w = .ok (.agg #[.slice none 0 0, .int .i64 0]) w := by kernel_rfl
theorem yieldsIf_build81 {ops : Array Oper} {S : World → Prop} {op : Oper} {a : Act} (hw : Region.wanted op (yielded ops a.tmps) = true) (ho : op.op = .build 81 #[]) : YieldsIf Try.prog ops S op (.agg #[.slice none 0 0, .int .i64 0]) a :=
  .inl ⟨hw, fun w hw' => by
    have e := run_build81 w
    unfold execOp
    simp only [ho, Sem.run_bind, Sem.run_pure, Result.andThen_ok]
    simp only [List.map_toArray, List.map_nil, e, Result.andThen_ok]⟩
section
variable {w W W' W3 : World} {ub B kb k : Nat} {s0 s s' : Value} {U0 U U' : List DE} {p : Pk}
theorem DM.post {C C' : List (Nm × Gm)} {V : Pk × Bool × Int} (h : DM w ub B s0 U0 p kb k s U W) (hM : inM C p = (V, C')) (hS : Sim C' U) (hl : ∀ m, (∀ e ∈ U0, e.l.length ≤ m) → ∀ e ∈ U, e.l.length ≤ m + 1) (vs : List Value) :
    DPost w ub B s0 U0 C p (.returned (.tuple #[pv V.1, .bool V.2.1, .int .i64 V.2.2])) (W.setCells (w.heap.size + 2) 0 vs) := by
  obtain ⟨h1, h2⟩ := h.done vs
  exact ⟨s, U, by rw [hM], h1, by rw [hM]; exact hS, hl, h2, h.old⟩
theorem DM.turn2 (h : DM w ub B s0 U0 p kb k s U W) {bs : List Nat} (hk : Kp bs W W') (hbs : ∀ b ∈ bs, (b < w.heap.size ∧ b ∈ ub :: s0.ownBlock.toList) ∨ kb < b) (hu : UT W' ub B s' U') (hn : ∀ b, ublk ub s' U' b → ublk ub s U b ∨ kb < b) : DM w ub B s0 U0 p kb k s' U' W' := by
  have h3 := h.kb3
  have h4 := h.klt
  have h5 := h.kp.size
  have far : ∀ b, w.heap.size ≤ b → b ≤ kb → b ∉ bs := fun b h1 h2 hm => by
    rcases hbs b hm with h6 | h6
    · have := h6.1; omega
    · omega
  refine ⟨(hk.block _ (lt_of_heap h.x) (far _ (by omega) (by omega))).trans h.x, (hk.block _ h.pp.lt (far _ (by omega) (by omega))).trans h.pp, (hk.block _ h.rr.lt (far _ (by omega) (by omega))).trans h.rr, (hk.block _ h4 (far _ (by omega) (by omega))).trans h.kk, h3, hu, h.ult, fun b hb => ?_, fun b hb => ?_, h.kp.trans hk fun b hb => ?_⟩
  · rcases hn b hb with h6 | h6
    · exact h.nx b h6
    · exact Or.inr h6
  · rcases hn b hb with h6 | h6
    · exact h.old b h6
    · right; omega
  · rcases hbs b hb with h6 | h6
    · exact Or.inl h6.2
    · right; omega
/-- One more is open. -/
theorem UT.app (h : UT W ub B s U) (hb : Below W.heap.size W W') {e : DE} (hv : e.v = .slice none 0 0) (hl : e.l = []) (ho : W3.ownsRow B 81 2 s' (U.length + 1) (ocells U ++ ocl e)) (hg : W'.grownBy W3 s.ownBlock) (hat : s'.ownBlock = s.ownBlock ∨ s'.ownBlock = some W'.heap.size) :
    UT (W3.setCell ⟨ub, 0, none⟩ s') ub B s' (U ++ [e]) ∧ Kp (ub :: s.ownBlock.toList) W (W3.setCell ⟨ub, 0, none⟩ s') ∧ ∀ b, ublk ub s' (U ++ [e]) b → ublk ub s U b ∨ W.heap.size ≤ b := by
  have ult := h.lt
  have hz := hb.size
  have hbl : ∀ b, b < W.heap.size → s.ownBlock ≠ some b → W3.heap[b]? = W.heap[b]? := fun b h1 h2 => (hg.block b (by omega) (fun e => h2 e.symm)).trans (hb.block b h1)
  have hk : Kp (ub :: s.ownBlock.toList) W (W3.setCell ⟨ub, 0, none⟩ s') := by
    have : Kp (ub :: s.ownBlock.toList) W W3 := ⟨hg.os.trans hb.os, hg.tape.trans hb.tape, hg.output.trans hb.output, Nat.le_trans hz hg.size, fun b h1 h2 => hbl b h1 fun e => h2 (by simp [e])⟩
    exact this.setCell (Or.inl (by simp)) _
  have hne : s'.ownBlock ≠ some ub := by
    rcases hat with hat | hat
    · rw [hat]; exact h.ns
    · rw [hat]; intro e; injection e; omega
  refine ⟨⟨?_, ?_, fun x hx => ?_, hne, fun x hx => ?_⟩, hk, fun b hb' => ?_⟩
  · exact Joins.block_setCell (i := 0) ((hbl ub ult h.ns).trans h.box) s'
  · have h1 := own_keep (W' := W3.setCell ⟨ub, 0, none⟩ s') ho fun b hb' => heap_setCell_other W3 ⟨ub, 0, none⟩ b s' (by show b ≠ ub; intro e; exact hne (by rw [hb', e]))
    rw [ocells_append, List.length_append]
    exact h1
  · rcases List.mem_append.1 hx with hx | hx
    · refine own_keep (W := W) (h.ls x hx) fun b hb' => ?_
      have hlt := (World.ownsRow.lt (h.ls x hx) b hb').2
      have h1 := (h.nv x hx).1
      rw [heap_setCell_other W3 ⟨ub, 0, none⟩ b s' (by show b ≠ ub; intro e; exact h1 (by rw [hb', e]))]
      exact hbl b hlt fun e => (h.nv x hx).2 b e hb'
    · simp at hx
      subst hx
      rw [hv, hl]
      exact PRow.nil _ _
  · rcases List.mem_append.1 hx with hx | hx
    · refine ⟨(h.nv x hx).1, fun g hg' => ?_⟩
      rcases hat with hat | hat
      · exact (h.nv x hx).2 g (by rw [← hat]; exact hg')
      · intro hc
        have hlt := (World.ownsRow.lt (h.ls x hx) g hc).2
        rw [hat] at hg'
        injection hg'
        omega
    · simp at hx
      subst hx
      rw [hv]
      exact ⟨by simp [Value.ownBlock], fun g _ => by simp [Value.ownBlock]⟩
  · rcases hb' with rfl | hb' | ⟨x, hx, hb'⟩
    · exact Or.inl (Or.inl rfl)
    · rcases hat with hat | hat
      · exact Or.inl (Or.inr (Or.inl (by rw [← hat]; exact hb')))
      · rw [hat] at hb'; injection hb'; right; omega
    · rcases List.mem_append.1 hx with hx | hx
      · exact Or.inl (Or.inr (Or.inr ⟨x, hx, hb'⟩))
      · simp at hx
        subst hx
        rw [hv] at hb'
        simp [Value.ownBlock] at hb'
/-- The fragments of one are stored. -/
theorem UT.setl {g n c : Nat} {v : Value} {l : List Pk} {e : DE} (h : UT W ub B (.slice (some ⟨g, 0, none⟩) n c) U) (hn : U.length = n) (he : U[k]? = some e) (hv : PRow W B v l) (h1 : v.ownBlock ≠ some ub) (h2 : v.ownBlock ≠ some g) :
    UT (W.setCell ⟨g, k * 2, none⟩ v) ub B (.slice (some ⟨g, 0, none⟩) n c) (U.set k ⟨v, l, e.age⟩) ∧ ∀ b, ublk ub (.slice (some ⟨g, 0, none⟩) n c) (U.set k ⟨v, l, e.age⟩) b → ublk ub (.slice (some ⟨g, 0, none⟩) n c) U b ∨ v.ownBlock = some b := by
  subst hn
  have hgu : g ≠ ub := fun e => h.ns (by rw [e]; rfl)
  have hset := (h.row.stored (k * 2) v).1
  rw [ocells_set U k e v l he] at hset
  have hmem : ∀ x ∈ U.set k ⟨v, l, e.age⟩, x ∈ U ∨ x = ⟨v, l, e.age⟩ := fun x hx => List.mem_or_eq_of_mem_set hx
  have hne : ∀ b, b ≠ g → (W.setCell ⟨g, k * 2, none⟩ v).heap[b]? = W.heap[b]? := fun b hb => heap_setCell_other W ⟨g, k * 2, none⟩ b v hb
  refine ⟨⟨(hne ub (Ne.symm hgu)).trans h.box, by rw [List.length_set]; exact hset, fun x hx => ?_, h.ns, fun x hx => ?_⟩, fun b hb => ?_⟩
  · rcases hmem x hx with hx | rfl
    · exact own_keep (W := W) (h.ls x hx) fun b hb => hne b fun e => (h.nv x hx).2 g rfl (by rw [← e]; exact hb)
    · exact own_keep (W := W) hv fun b hb => hne b fun e => h2 (by rw [← e]; exact hb)
  · rcases hmem x hx with hx | rfl
    · exact h.nv x hx
    · refine ⟨h1, fun g' hg' => ?_⟩
      have : g = g' := by simpa [Value.ownBlock] using hg'
      rw [← this]; exact h2
  · rcases hb with rfl | hb | ⟨x, hx, hb⟩
    · exact Or.inl (Or.inl rfl)
    · exact Or.inl (Or.inr (Or.inl hb))
    · rcases hmem x hx with hx | rfl
      · exact Or.inl (Or.inr (Or.inr ⟨x, hx, hb⟩))
      · exact Or.inr hb
end
theorem src_blk (W : World) (p : Pk) : Src 9 (W.alloc (.cells (pc p) 24)) (some ⟨W.heap.size, 0, none⟩) 1 (pcl p) :=
  ⟨rfl, pcl_one p, (fun h => by cases h), fun ad ho j u hu => by
    obtain rfl : _ = ad := Option.some.inj ho
    exact World.news_of_block (cs := pc p) (t := 24) (fr := (0, 0)) (heap_alloc_new W _) j u hu⟩
/-- What is known once it is known which one a fragment is of. -/
structure RB (M : (Pk × Bool × Int) × List (Nm × Gm)) (p : Pk) (U0 : List DE) (k : Nat) (C1 : List (Nm × Gm)) (g1 : Gm) (U1 : List DE) (ve : Value) (l1 : List Pk) (age : Int) : Prop where
  at_ : U1[k]? = some ⟨ve, l1, age⟩
  eq : M = (putVm (nmOf p) g1 p, putB C1 (nmOf p) g1 p)
  cat : C1[k]? = some (nmOf p, g1)
  pd : PD C1
  se : SE (nmOf p) g1 l1
  left : g1.left = 30 - age
  lo : 0 ≤ age
  hi : age < 30
  set : ∀ b e, SEa b e → Sim (C1.set k b) (U1.set k e)
  del : Sim (C1.take k ++ C1.drop (k + 1)) (U1.take k ++ U1.drop (k + 1))
  n8 : U1.length ≤ 8
  lim : ∀ m, (∀ e ∈ U0, e.l.length ≤ m) → (∀ e ∈ U1, e.l.length ≤ m) ∧ l1.length ≤ m
  room : (l1.length + 1) * 64 ≤ 140737488355328
section
variable {C : List (Nm × Gm)} {p : Pk} {U0 : List DE} {k : Nat}
theorem RB.found {M : (Pk × Bool × Int) × List (Nm × Gm)} (hM : M = match lookB C (nmOf p) with | some g => (putVm (nmOf p) g p, putB C (nmOf p) g p) | none => if C.length = 8 then ((pz, false, 9), C) else (putVm (nmOf p) gm0 p, putB (C ++ [(nmOf p, gm0)]) (nmOf p) gm0 p))
    (hd : PD C) (h8 : C.length ≤ 8) (S : Sim C U0) (hz : ∀ e ∈ U0, (e.l.length + 1) * 64 ≤ 140737488355328) {g : Gm} (hg : C[k]? = some (nmOf p, g)) {e : DE} (he : U0[k]? = some e) : RB M p U0 k C g U0 e.v e.l e.age := by
  have h1 := S.get hg he
  have hem := List.mem_of_getElem? he
  rw [(look_at hd hg).1] at hM
  exact ⟨he, hM, hg, hd, h1.se, h1.left, h1.lo, h1.hi, fun b e hb => S.set hb, (S.take k).add (S.drop (k + 1)), by have := S.len; omega, fun m hm => ⟨hm, hm e hem⟩, hz e hem⟩
theorem RB.new {M : (Pk × Bool × Int) × List (Nm × Gm)} (hM : M = match lookB C (nmOf p) with | some g => (putVm (nmOf p) g p, putB C (nmOf p) g p) | none => if C.length = 8 then ((pz, false, 9), C) else (putVm (nmOf p) gm0 p, putB (C ++ [(nmOf p, gm0)]) (nmOf p) gm0 p))
    (hd : PD C) (h8 : C.length ≠ 8) (h9 : C.length ≤ 8) (S : Sim C U0) (hn : ∀ b ∈ C, b.1 ≠ nmOf p) : RB M p U0 U0.length (C ++ [(nmOf p, gm0)]) gm0 (U0 ++ [⟨.slice none 0 0, [], 0⟩]) (.slice none 0 0) [] 0 := by
  have hl := S.len
  have hM : M = if C.length = 8 then ((pz, false, 9), C) else (putVm (nmOf p) gm0 p, putB (C ++ [(nmOf p, gm0)]) (nmOf p) gm0 p) := by rw [hM, look_no hn]
  rw [if_neg h8] at hM
  refine ⟨by simp, hM, by rw [← hl]; simp, hd.add hn, SE.zero _, rfl, by omega, by omega, fun b e hb => ?_, ?_, by simp; omega, fun m hm => ⟨fun e he => ?_, by simp⟩, by simp⟩
  · have e1 : (C ++ [(nmOf p, gm0)]).set U0.length b = C ++ [b] := by rw [← hl, List.set_append_right _ _ (Nat.le_refl _)]; simp
    have e2 : (U0 ++ [(⟨.slice none 0 0, [], 0⟩ : DE)]).set U0.length e = U0 ++ [e] := by rw [List.set_append_right _ _ (Nat.le_refl _)]; simp
    rw [e1, e2]
    exact S.add ⟨hb, trivial⟩
  · have e1 : (C ++ [(nmOf p, gm0)]).take U0.length ++ (C ++ [(nmOf p, gm0)]).drop (U0.length + 1) = C := by rw [← hl]; simp
    have e2 : (U0 ++ [(⟨.slice none 0 0, [], 0⟩ : DE)]).take U0.length ++ (U0 ++ [(⟨.slice none 0 0, [], 0⟩ : DE)]).drop (U0.length + 1) = U0 := by simp
    rw [e1, e2]
    exact S
  · rcases List.mem_append.1 he with he | he
    · exact hm e he
    · simp at he
      subst he
      simp
theorem RB.eqF {M : (Pk × Bool × Int) × List (Nm × Gm)} {C1 : List (Nm × Gm)} {g1 : Gm} {U1 : List DE} {ve : Value} {l1 : List Pk} {age : Int} (R : RB M p U0 k C1 g1 U1 ve l1 age) (hpe : pErr g1 p = false) (h : gwhole (gadd g1 p) = false) : M = ((pz, false, 0), C1.set k (nmOf p, gadd g1 p)) := by
  rw [R.eq]
  unfold putVm putB
  simp only [hpe, h, Bool.false_eq_true, if_false]
  rw [(look_at R.pd R.cat).2.2]
theorem RB.eqT {M : (Pk × Bool × Int) × List (Nm × Gm)} {C1 : List (Nm × Gm)} {g1 : Gm} {U1 : List DE} {ve : Value} {l1 : List Pk} {age : Int} (R : RB M p U0 k C1 g1 U1 ve l1 age) (hpe : pErr g1 p = false) (h : gwhole (gadd g1 p) = true) : M = ((gpk (gadd g1 p) (nmOf p), true, 0), C1.take k ++ C1.drop (k + 1)) := by
  rw [R.eq]
  unfold putVm putB
  simp only [hpe, h, Bool.false_eq_true, if_false, if_true]
  rw [(look_at R.pd R.cat).2.1]
end
end Go.Proofs.Ytfnmcnbiahfnfaa
