/-
  Two packets' pieces in one table: mathematics.
-/
import Derived.Test.YtfnmcnbiahfnfaaMi
namespace Go.Proofs.Ytfnmcnbiahfnfaa
open Go.RowKit
set_option linter.unusedVariables false
set_option linter.unusedSimpArgs false

theorem lookB_del_same (B : List (Nm × Gm)) (n : Nm) : lookB (delB B n) n = none := by
  induction B with
  | nil => rfl
  | cons a B ih =>
    unfold delB at ih ⊢
    rw [List.filter_cons]
    by_cases h : a.1 = n
    · rw [if_neg (by simp [h])]; exact ih
    · rw [if_pos (by simpa using h), lookB, if_neg h]; exact ih
theorem lookB_del_other (B : List (Nm × Gm)) {n m : Nm} (h : m ≠ n) : lookB (delB B n) m = lookB B m := by
  induction B with
  | nil => rfl
  | cons a B ih =>
    unfold delB at ih ⊢
    rw [List.filter_cons]
    by_cases h1 : a.1 = n
    · rw [if_neg (by simp [h1]), ih, lookB, if_neg (fun c => h (c.symm.trans h1))]
    · rw [if_pos (by simpa using h1), lookB, lookB, ih]
theorem lookB_upd_other (B : List (Nm × Gm)) {n m : Nm} (g : Gm) (h : m ≠ n) : lookB (updB B n g) m = lookB B m := by
  induction B with
  | nil => rfl
  | cons a B ih =>
    unfold updB at ih ⊢
    rw [List.map_cons, lookB, lookB, ih]
    by_cases h1 : a.1 = n
    · rw [if_pos h1]
      show (if a.1 = m then some g else _) = _
      rw [if_neg (fun c => h (c.symm.trans h1)), if_neg (fun c => h (c.symm.trans h1))]
    · rw [if_neg h1]
theorem lookB_upd_same (B : List (Nm × Gm)) (n : Nm) (g : Gm) (h : lookB B n ≠ none) : lookB (updB B n g) n = some g := by
  induction B with
  | nil => exact absurd rfl h
  | cons a B ih =>
    unfold updB at ih ⊢
    rw [List.map_cons, lookB]
    by_cases h1 : a.1 = n
    · rw [if_pos h1, if_pos h1]
    · rw [if_neg h1, if_neg h1]
      rw [lookB, if_neg h1] at h
      exact ih h
theorem lookB_app (B : List (Nm × Gm)) (n m : Nm) (g : Gm) : lookB (B ++ [(n, g)]) m = match lookB B m with | some x => some x | none => if n = m then some g else none := by
  induction B with
  | nil => rfl
  | cons a B ih =>
    rw [List.cons_append, lookB, lookB, ih]
    by_cases h : a.1 = m
    · rw [if_pos h, if_pos h]
    · rw [if_neg h, if_neg h]
/-- All of the table is of two names. -/
def Of2 (n1 n2 : Nm) (B : List (Nm × Gm)) : Prop := (∀ x ∈ B, x.1 = n1 ∨ x.1 = n2) ∧ B.Pairwise (fun x y => x.1 ≠ y.1)
theorem len3 {n1 n2 : Nm} : ∀ (B : List (Nm × Gm)), Of2 n1 n2 B → B.length ≤ 2
  | [], _ => by simp
  | [_], _ => by simp
  | [_, _], _ => by simp
  | a :: b :: c :: B, ⟨h, hp⟩ => by
    exfalso
    obtain ⟨h1, h2⟩ := List.pairwise_cons.1 hp
    obtain ⟨h3, _⟩ := List.pairwise_cons.1 h2
    have ab := h1 b (by simp)
    have ac := h1 c (by simp)
    have bc := h3 c (by simp)
    rcases h a (by simp) with ha | ha <;> rcases h b (by simp) with hb | hb <;> rcases h c (by simp) with hc | hc
    · exact ab (ha.trans hb.symm)
    · exact ab (ha.trans hb.symm)
    · exact ac (ha.trans hc.symm)
    · exact bc (hb.trans hc.symm)
    · exact bc (hb.trans hc.symm)
    · exact ac (ha.trans hc.symm)
    · exact ab (ha.trans hb.symm)
    · exact ab (ha.trans hb.symm)
theorem Of2.del {n1 n2 : Nm} {B : List (Nm × Gm)} (h : Of2 n1 n2 B) (n : Nm) : Of2 n1 n2 (delB B n) := ⟨fun x hx => h.1 x (List.mem_filter.1 hx).1, h.2.filter _⟩
theorem Of2.upd {n1 n2 : Nm} {B : List (Nm × Gm)} (h : Of2 n1 n2 B) (n : Nm) (g : Gm) : Of2 n1 n2 (updB B n g) := by
  refine ⟨fun x hx => ?_, ?_⟩
  · obtain ⟨y, hy, rfl⟩ := List.mem_map.1 hx
    have : (if y.1 = n then (y.1, g) else y).1 = y.1 := by split <;> rfl
    rw [this]; exact h.1 y hy
  · unfold updB; rw [List.pairwise_map]
    refine h.2.imp fun {x y} hxy => ?_
    have e1 : ∀ z : Nm × Gm, (if z.1 = n then (z.1, g) else z).1 = z.1 := fun z => by split <;> rfl
    rw [e1, e1]; exact hxy
theorem lookB_none_mem {B : List (Nm × Gm)} {n : Nm} (h : lookB B n = none) : ∀ x ∈ B, x.1 ≠ n := by
  induction B with
  | nil => intro x hx; cases hx
  | cons a B ih =>
    rw [lookB] at h
    split at h
    · cases h
    · intro x hx
      rcases List.mem_cons.1 hx with rfl | hx
      · assumption
      · exact ih h x hx
theorem Of2.app {n1 n2 : Nm} {B : List (Nm × Gm)} (h : Of2 n1 n2 B) {n : Nm} (hn : n = n1 ∨ n = n2) (g : Gm) (hl : lookB B n = none) : Of2 n1 n2 (B ++ [(n, g)]) := by
  refine ⟨fun x hx => ?_, ?_⟩
  · rw [List.mem_append, List.mem_singleton] at hx
    rcases hx with hx | rfl
    · exact h.1 x hx
    · exact hn
  · rw [List.pairwise_append]
    exact ⟨h.2, List.pairwise_singleton _ _, fun x hx y hy => by rw [List.mem_singleton] at hy; subst hy; exact lookB_none_mem hl x hx⟩

/-- A packet's entry is its pieces by J; not all of them have come. -/
structure Half (p : Pk) (R n : Nat) (J : Nat → Bool) (B : List (Nm × Gm)) : Prop where
  ent : (lookB B (nmOf p) = none ∧ ∀ j, J j = false) ∨ (2 ≤ n ∧ ∃ g, lookB B (nmOf p) = some g ∧ PSt p R n J g)
  lack : ∃ j, j < n ∧ J j = false
theorem Half.of_look {p : Pk} {R n : Nat} {J : Nat → Bool} {B B' : List (Nm × Gm)} (h : Half p R n J B) (e : lookB B' (nmOf p) = lookB B (nmOf p)) : Half p R n J B' := ⟨by rw [e]; exact h.ent, h.lack⟩
/-- A piece comes. -/
theorem Half.step {p : Pk} {mtu : Int} {R n : Nat} {J : Nat → Bool} {B : List (Nm × Gm)} {n1 n2 : Nm} (F : Frm p mtu R n) (H : Half p R n J B) (h2 : Of2 n1 n2 B) (hn : nmOf p = n1 ∨ nmOf p = n2) {j : Nat} (hj : j < n) :
    (((∀ i, i < n → (J i || decide (i = j)) = true) ∧ (inM B (pk p R j)).1 = (p, true, 0) ∧ Half p R n (fun _ => false) (inM B (pk p R j)).2) ∨
     ((¬ ∀ i, i < n → (J i || decide (i = j)) = true) ∧ (inM B (pk p R j)).1 = (pz, false, 0) ∧ Half p R n (fun i => J i || decide (i = j)) (inM B (pk p R j)).2)) ∧
    Of2 n1 n2 (inM B (pk p R j)).2 ∧ ∀ m, m ≠ nmOf p → lookB (inM B (pk p R j)).2 m = lookB B m := by
  rcases Nat.lt_or_ge n 2 with h1 | h1
  · -- one piece: the packet itself
    have hn1 : n = 1 := by have := F.pos; omega
    subst hn1
    obtain rfl : j = 0 := by omega
    have hJ : ∀ j, J j = false := by
      rcases H.ent with ⟨_, h⟩ | ⟨h, _⟩
      · exact h
      · omega
    have hlk : lookB B (nmOf p) = none := by
      rcases H.ent with ⟨h, _⟩ | ⟨h, _⟩
      · exact h
      · omega
    have hpk : pk p R 0 = p := by
      have hall := F.all
      show pce p (0 * R) (min (0 * R + R) p.body.size) = p
      rw [Nat.zero_mul, Nat.zero_add, Nat.min_eq_right (by omega)]
      exact pce_whole p F.off F.more
    have hc := F.chk (j := 0) (by omega)
    rw [hpk] at hc ⊢
    have e : inM B p = ((p, true, 0), B) := by
      unfold inM; rw [if_neg (by simp [hc]), if_pos ⟨F.more, F.off⟩]
    rw [e]
    refine ⟨Or.inl ⟨fun i hi => (by rw [show i = 0 from by omega]; simp), rfl, ⟨Or.inl ⟨hlk, fun _ => rfl⟩, ⟨0, by omega, rfl⟩⟩⟩, h2, fun _ _ => rfl⟩
  · rw [in_pk F h1 hj]
    have key : ∀ (g : Gm) (J' : Nat → Bool) (B0 : List (Nm × Gm)), lookB B0 (nmOf p) = some g → PSt p R n J' g → J' = J → Of2 n1 n2 B0 → (∀ m, m ≠ nmOf p → lookB B0 m = lookB B m) →
        (((∀ i, i < n → (J i || decide (i = j)) = true) ∧ putVm (nmOf p) g (pk p R j) = (p, true, 0) ∧ Half p R n (fun _ => false) (putB B0 (nmOf p) g (pk p R j))) ∨
         ((¬ ∀ i, i < n → (J i || decide (i = j)) = true) ∧ putVm (nmOf p) g (pk p R j) = (pz, false, 0) ∧ Half p R n (fun i => J i || decide (i = j)) (putB B0 (nmOf p) g (pk p R j)))) ∧
        Of2 n1 n2 (putB B0 (nmOf p) g (pk p R j)) ∧ ∀ m, m ≠ nmOf p → lookB (putB B0 (nmOf p) g (pk p R j)) m = lookB B m := by
      intro g J' B0 hl S eJ hO hm
      subst eJ
      by_cases ha : ∀ i, i < n → (J' i || decide (i = j)) = true
      · obtain ⟨e1, e2⟩ := put_last F h1 hj S ha B0
        rw [e1, e2]
        exact ⟨Or.inl ⟨ha, rfl, Or.inl ⟨lookB_del_same _ _, fun _ => rfl⟩, 0, by omega, rfl⟩, hO.del _, fun m hne => (lookB_del_other _ hne).trans (hm m hne)⟩
      · obtain ⟨e1, e2⟩ := put_more F h1 hj S ha B0
        rw [e1, e2]
        refine ⟨Or.inr ⟨ha, rfl, Or.inr ⟨h1, _, lookB_upd_same _ _ _ (by rw [hl]; simp), S.add F h1 hj⟩, ?_⟩, hO.upd _ _, fun m hne => (lookB_upd_other _ _ hne).trans (hm m hne)⟩
        refine Classical.byContradiction fun hc => ha fun i hi => ?_
        cases hv : (J' i || decide (i = j)) with
        | true => rfl
        | false => exact absurd ⟨i, hi, hv⟩ hc
    rcases H.ent with ⟨hl, hJ⟩ | ⟨_, g, hl, S⟩
    · rw [hl]
      have hlen := len3 B h2
      show ((_ ∨ _) ∧ _)
      rw [if_neg (by omega)]
      have hJ' : (fun _ => false) = J := by funext i; exact (hJ i).symm
      refine key gm0 (fun _ => false) (B ++ [(nmOf p, gm0)]) ?_ (pst_zero p R n) hJ' (h2.app hn gm0 hl) (fun m hne => ?_)
      · rw [lookB_app, hl]; simp
      · rw [lookB_app]
        cases hb : lookB B m with
        | some x => rfl
        | none =>
          show (if nmOf p = m then some gm0 else none) = none
          rw [if_neg (fun c => hne c.symm)]
    · rw [hl]
      exact key g J B hl S rfl h2 (fun _ _ => rfl)
end Go.Proofs.Ytfnmcnbiahfnfaa
