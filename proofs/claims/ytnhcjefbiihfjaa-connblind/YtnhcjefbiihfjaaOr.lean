/-
  A row of segments that may begin within its block: what is in the air, once something of it has been taken.
-/
import Derived.Test.YtnhcjefbiihfjaaSr
namespace Go.Proofs.Ytnhcjefbiihfjaa
open Go.RowKit
open Tc (Sg gchk gv gc)
set_option linter.unusedVariables false
set_option linter.unusedSimpArgs false

/-- The row in block g, from off on. -/
def OAt (W : World) (g off : Nat) (L : List Sg) (cap : Nat) : Prop :=
  ∃ cur, W.heap[g]? = some (.cells cur 35 (0, 0)) ∧ L.length ≤ cap ∧ cap ≤ maxLen ∧ off + cap * 13 ≤ cur.size ∧ ∀ j u, (scells L)[j]? = some u → cur[off + j]? = some u
/-- A row that may begin anywhere. -/
def ORow (W : World) (B : Nat) (v : Value) (L : List Sg) : Prop :=
  (v = .slice none 0 0 ∧ L = []) ∨ ∃ g off cap, v = .slice (some ⟨g, off, none⟩) L.length cap ∧ B ≤ g ∧ OAt W g off L cap
section
variable {W W' : World} {B : Nat} {v : Value} {L : List Sg}
theorem SRow.orow (h : SRow W B v L) : ORow W B v L := by
  rcases h.2 with ⟨rfl, h0⟩ | ⟨g, cap, cur, rfl, hB, hg, hn, hm, hc, ht⟩
  · exact .inl ⟨rfl, List.eq_nil_of_length_eq_zero h0⟩
  · refine .inr ⟨g, 0, cap, rfl, hB, cur, hg, hn, hm, by omega, fun j u hu => ?_⟩
    rw [← ht, List.getElem?_take] at hu
    split at hu
    · simpa using hu
    · exact absurd hu (by simp)
theorem ORow.nil (W : World) (B : Nat) : ORow W B (.slice none 0 0) [] := .inl ⟨rfl, rfl⟩
theorem ORow.blk (h : ORow W B v L) {g : Nat} (hg : v.ownBlock = some g) : ∃ cur, W.heap[g]? = some (.cells cur 35 (0, 0)) := by
  rcases h with ⟨rfl, _⟩ | ⟨g', off, cap, rfl, _, cur, hc, _⟩
  · exact absurd hg (by simp [Value.ownBlock])
  · obtain rfl : g' = g := by simpa [Value.ownBlock] using hg
    exact ⟨cur, hc⟩
theorem ORow.lt (h : ORow W B v L) : ∀ k, v.ownBlock = some k → B ≤ k ∧ k < W.heap.size := fun k hk => by
  rcases h with ⟨rfl, _⟩ | ⟨g', off, cap, rfl, hB, cur, hc, _⟩
  · exact absurd hk (by simp [Value.ownBlock])
  · obtain rfl : g' = k := by simpa [Value.ownBlock] using hk
    exact ⟨hB, lt_of_heap hc⟩
/-- Only its own block is looked at. -/
theorem ORow.same (h : ORow W B v L) (hk : ∀ g, v.ownBlock = some g → W'.heap[g]? = W.heap[g]?) : ORow W' B v L := by
  rcases h with ⟨rfl, h0⟩ | ⟨g, off, cap, rfl, hB, cur, hc, hr⟩
  · exact .inl ⟨rfl, h0⟩
  · exact .inr ⟨g, off, cap, rfl, hB, cur, (hk g rfl).trans hc, hr⟩
theorem ORow.kp {bs : List Nat} (h : ORow W B v L) (hk : Kp bs W W') (hn : ∀ g, v.ownBlock = some g → g ∉ bs) : ORow W' B v L := h.same fun g hg => hk.block g (h.lt g hg).2 (hn g hg)
theorem ORow.on (h : ORow W B v L) (hb : Below W.heap.size W W') : ORow W' B v L := h.same fun g hg => hb.block g (h.lt g hg).2
theorem ORow.base {B' : Nat} (h : ORow W B v L) (hB : B' ≤ B) : ORow W B' v L := h.imp id fun ⟨g, off, cap, h1, h2, h3⟩ => ⟨g, off, cap, h1, Nat.le_trans hB h2, h3⟩
theorem ORow.form (h : ORow W B v L) : ∃ (o : Option Addr) (g off cap : Nat), v = .slice o L.length cap ∧ L.length ≤ cap ∧ (o = none → cap = 0) ∧ (0 < L.length → o = some ⟨g, off, none⟩ ∧ B ≤ g ∧ g < W.heap.size) := by
  rcases h with ⟨rfl, rfl⟩ | ⟨g, off, cap, rfl, hB, cur, hc, hn, _⟩
  · exact ⟨none, 0, 0, 0, rfl, Nat.le_refl _, fun _ => rfl, fun h => absurd h (by simp)⟩
  · exact ⟨_, g, off, cap, rfl, hn, fun h => (by cases h), fun _ => ⟨rfl, hB, lt_of_heap hc⟩⟩
theorem OAt.cell {g off cap : Nat} (h : OAt W g off L cap) {j : Nat} {u : Value} (hu : (scells L)[j]? = some u) : W.cell? ⟨g, off + j, none⟩ = some u := by
  obtain ⟨cur, hc, _, _, _, hr⟩ := h
  exact (Joins.cell_of_block hc _).trans (hr j u hu)
theorem ORow.range {g off n cap : Nat} (h : ORow W B (.slice (some ⟨g, off, none⟩) n cap) L) {i : Nat} {q : Sg} (hi : L[i]? = some q) : W.rangeAt g (off + i * 13) (gcl q) := fun j v hv => by
  rcases h with ⟨h, _⟩ | ⟨g', off', cap', h, _, hA⟩
  · cases h
  · simp only [Value.slice.injEq, Option.some.injEq, Addr.mk.injEq, and_true] at h
    obtain ⟨⟨rfl, rfl⟩, -, rfl⟩ := h
    rw [Nat.add_assoc]
    exact hA.cell (scells_get _ _ _ hi _ _ hv)
theorem ORow.up {b : Nat} {c : Cn} {P P' : Pt} (h : ORow W B v L) (hc : CT b c P W) (hu : Up b P P' W W') : ORow W' B v L :=
  h.kp hu.kp fun g hg hm => by obtain ⟨cur, hh⟩ := h.blk hg; exact hc.no_seg hh hm
/-- The first is taken. -/
theorem ORow.tail {g off cap : Nat} {q : Sg} (h : ORow W B (.slice (some ⟨g, off, none⟩) (L.length + 1) cap) (q :: L)) : ORow W B (.slice (some ⟨g, off + 13, none⟩) L.length (cap - 1)) L := by
  rcases h with ⟨h, _⟩ | ⟨g', off', cap', h, hB, cur, hc, hn, hm, hz, hr⟩
  · cases h
  · simp only [List.length_cons, Value.slice.injEq, Option.some.injEq, Addr.mk.injEq, and_true, true_and] at h hn
    obtain ⟨⟨rfl, rfl⟩, rfl⟩ := h
    refine .inr ⟨g, off + 13, cap - 1, rfl, hB, cur, hc, by omega, by omega, by omega, fun j u hu => ?_⟩
    rw [Nat.add_assoc]
    refine hr (13 + j) u ?_
    show (scells ([q] ++ L))[13 + j]? = some u
    rw [scells_append, List.getElem?_append_right (by rw [scells_length]; simp), scells_length]
    simpa using hu
end
theorem kp_setCells {W : World} {g : Nat} : ∀ (vs : List Value) (o : Nat) (w : World), Kp [g] W w → Kp [g] W (w.setCells g o vs)
  | [], _, _, h => h
  | v :: r, o, w, h => kp_setCells r (o + 1) _ (h.setCell (Or.inl (by simp)) v)
/-- One segment more. -/
theorem append_or {P : Program} (w : World) (t ty : TypeId) (i : TypeInfo) (z : Value) (bytes : Nat) (ht : P.underlying t = some (.slice 35)) (hi : P.info? 35 = some i) (hz : i.zero = some z)
    (hsize : i.size = 13) (hby : i.bytes = bytes) (hzs : z.cells.size = 13) {B : Nat} {v : Value} {L : List Sg} (h : ORow w B v L) (o : Option Addr) (c : Nat) (q : Sg) (hsrc : Src 13 w o 1 (gcl q))
    (h63 : L.length + 1 ≤ maxLen) (hbytes : (L.length + 1) * bytes ≤ 140737488355328) (hB : B ≤ w.heap.size) :
    ∃ v' w', (Builtin.append_ #[t, t] ty #[v, .slice o 1 c]).run P w = .ok v' w' ∧ ORow w' B v' (L ++ [q]) ∧ w.grownBy w' v.ownBlock ∧ (v'.ownBlock = v.ownBlock ∨ ∃ k, v'.ownBlock = some k ∧ w.heap.size ≤ k) := by
  have hone : scells [q] = gcl q := List.append_nil _
  cases o with
  | none => exact absurd (hsrc.non rfl) (by decide)
  | some ad =>
    have hnews := hsrc.cell ad rfl
    rcases h with ⟨rfl, rfl⟩ | ⟨g, off, cap, rfl, hg, hA⟩
    · obtain ⟨v', w', h1', h2', h3', _, h5'⟩ := run_append_own_at (P := P) w B t ty 35 i z 13 bytes ht hi hz hsize hby hzs (by decide) (.slice none 0 0) 0 [] (World.ownsRow_nil w B _ 13) ad 1 c (gcl q) hsrc.len hnews hsrc.one (by simpa using h63) (by simpa using hbytes) hB
      refine ⟨v', w', h1', SRow.orow (L := [] ++ [q]) ?_, h3', h5'.imp id fun e => ⟨_, e, Nat.le_refl _⟩⟩
      show w'.ownsRow B 35 13 v' _ (scells [q])
      rw [hone]; simpa using h2'
    · obtain ⟨cur, hc, hn, hm, hz', hr⟩ := id hA
      by_cases hroom : L.length + 1 ≤ cap
      · have hin : ∀ j, j < (gcl q).length → off + L.length * i.size + j < cur.size := fun j hj => by rw [gcl_length] at hj; rw [hsize]; omega
        have hcc : ∀ j, j < (gcl q).length → (w.cell? ⟨g, off + L.length * i.size + j, none⟩).isSome = true := fun j hj => by
          rw [Joins.cell_of_block hc, Array.getElem?_eq_getElem (hin j hj)]; rfl
        have hrun := run_append_room_cells (P := P) w t ty 35 i ht hi g off L.length cap ad 1 c (gcl q) (by rw [hsize]; exact hsrc.len) hnews hsrc.one hroom hcc (fun j hj => Joins.unfrozen_of_block hc _)
        have hkp : Kp [g] w (w.setCells g (off + L.length * i.size) (gcl q)) := kp_setCells (gcl q) _ w (Kp.refl _ _)
        have hblk := Oq.block_setCells (gcl q) (off + L.length * i.size) hc
        refine ⟨_, _, hrun, .inr ⟨g, off, cap, by simp, hg, _, hblk, by simpa using hroom, hm, ?_, fun j u hu => ?_⟩, ⟨hkp.os, hkp.tape, hkp.output, hkp.size, fun k hk hne => hkp.block k hk (fun e => hne (by rw [show k = g by simpa using e]; rfl))⟩, Or.inl rfl⟩
        · rw [Oq.lay1_size]; exact hz'
        · rw [Oq.lay1_get _ _ _ _ (by rw [gcl_length, hsize]; omega), hsize]
          rw [scells_append, hone] at hu
          by_cases hj : j < L.length * 13
          · rw [if_neg (by omega)]
            rw [List.getElem?_append_left (by rw [scells_length]; exact hj)] at hu
            exact hr j u hu
          · rw [List.getElem?_append_right (by rw [scells_length]; omega), scells_length] at hu
            have hjl : j - L.length * 13 < 13 := by
              have := (List.getElem?_eq_some_iff.1 hu).1
              rwa [gcl_length] at this
            rw [if_pos ⟨by omega, by rw [gcl_length]; omega⟩, show off + j - (off + L.length * 13) = j - L.length * 13 by omega]
            exact hu
      · obtain ⟨v', w', h1', h2', h3'⟩ := run_append_arg_grows (P := P) w t ty 35 i z 13 bytes ht hi hz hsize hby hzs (by decide) ⟨g, off, none⟩ L.length cap (scells L) (scells_length L) (fun j u hu => by rw [add_mid0]; exact hA.cell hu) ad 1 c (gcl q) hsrc.len hnews (by omega) h63 hbytes
        have hs' : SRow w' w.heap.size v' (L ++ [q]) := by
          show w'.ownsRow _ _ _ _ _ (scells (L ++ [q]))
          rw [scells_append, hone]; simpa using h2'
        refine ⟨v', w', h1', (hs'.base hB).orow, ⟨h3'.os, h3'.tape, h3'.output, h3'.size, fun k hk _ => h3'.block k hk (by simp)⟩, Or.inr ?_⟩
        obtain ⟨o', g', cap', hv, hpos⟩ := hs'.form
        obtain ⟨rfl, hle, _⟩ := hpos (by simp)
        exact ⟨g', by rw [hv]; rfl, hle⟩
/-- As a step of a region that draws. -/
theorem step_or {P : Program} (w : World) {ops : Array Oper} {op : Oper} {a : Act} {K : Act → World → Prop} {Q : Exit → Act → World → Prop} {E : Prop} (hgd : op.guard = none) (s x : Operand) (t : TypeId)
    (hop : op.op = .call { callee := .builtin .append, args := #[s, x], argTypes := #[t, t] }) (B : Nat) (i : TypeInfo) (z : Value) (bytes : Nat) (ht : P.underlying t = some (.slice 35)) (hi : P.info? 35 = some i) (hz : i.zero = some z)
    (hsize : i.size = 13) (hby : i.bytes = bytes) (hzs : z.cells.size = 13)
    (v : Value) (o : Option Addr) (c : Nat) {L : List Sg} (q : Sg) (hs : a.eval s = v) (hx : a.eval x = .slice o 1 c) (h : ORow w B v L) (hsrc : Src 13 w o 1 (gcl q))
    (h63 : L.length + 1 ≤ maxLen) (hbytes : (L.length + 1) * bytes ≤ 140737488355328) (hB : B ≤ w.heap.size)
    (hK : ∀ v' w', ORow w' B v' (L ++ [q]) → w.grownBy w' v.ownBlock → (v'.ownBlock = v.ownBlock ∨ ∃ k, v'.ownBlock = some k ∧ w.heap.size ≤ k) → K (a.put op.dst v') w') :
    if Region.wanted op (yielded ops a.tmps) = true then Oper.wp P op a w K Q else E := by
  have hw : Region.wanted op (yielded ops a.tmps) = true := by simp [Region.wanted, hgd]
  rw [if_pos hw]
  obtain ⟨v', w', hr, h2, h3, h4⟩ := append_or (P := P) w t op.type i z bytes ht hi hz hsize hby hzs h o c q hsrc h63 hbytes hB
  unfold Oper.wp execOp
  simp only [hop, resolve, invoke, builtin, Sem.run_bind, Sem.run_pure, Result.andThen_ok, List.map_toArray, List.map_cons, List.map_nil, hs, hx, hr]
  exact hK v' w' h2 h3 h4
theorem ORow.form1 {W : World} {B : Nat} {v : Value} {L : List Sg} {q : Sg} (h : ORow W B v (L ++ [q])) : ∃ (o : Option Addr) (c : Nat), v = .slice o (L.length + 1) c := by
  obtain ⟨o, g, off, c, hv, _⟩ := h.form
  exact ⟨o, c, by rw [hv]; simp⟩
end Go.Proofs.Ytnhcjefbiihfjaa
