/-
  A table's map written: an entry more, one less, one that has changed.
-/
import Derived.Test.YtfnmcnbiahfnfaaTb
namespace Go.Proofs.Ytfnmcnbiahfnfaa
open Go.RowKit Go.Maps
set_option linter.unusedVariables false
set_option linter.unusedSimpArgs false

def delA (A : List Ent) (n : Nm) : List Ent := A.filter fun x => decide (x.n ≠ n)
def updA (A : List Ent) (n : Nm) (g : Gm) : List Ent := A.map fun x => if x.n = n then { x with g := g } else x
theorem mem_delA {A : List Ent} {n : Nm} {x : Ent} : x ∈ delA A n ↔ x ∈ A ∧ x.n ≠ n := by
  unfold delA; rw [List.mem_filter, decide_eq_true_eq]
theorem mem_updA {A : List Ent} {n : Nm} {g : Gm} {x : Ent} (h : x ∈ updA A n g) : (x ∈ A ∧ x.n ≠ n) ∨ (x.n = n ∧ x.g = g ∧ ∃ y ∈ A, y.n = n ∧ y.b = x.b) := by
  unfold updA at h
  rw [List.mem_map] at h
  obtain ⟨y, hy, rfl⟩ := h
  by_cases hc : y.n = n
  · rw [if_pos hc]; exact Or.inr ⟨hc, rfl, y, hy, hc, rfl⟩
  · rw [if_neg hc]; exact Or.inl ⟨hy, hc⟩
theorem blks_updA (A : List Ent) (n : Nm) (g : Gm) : blks (updA A n g) = blks A := by
  unfold blks updA; rw [List.map_map]; refine List.map_congr_left fun x _ => ?_
  show (if x.n = n then { x with g := g } else x).b = x.b
  split <;> rfl
theorem uniq_name {A : List Ent} (h : A.Pairwise (fun x y => x.n ≠ y.n)) {x y : Ent} (hx : x ∈ A) (hy : y ∈ A) (e : x.n = y.n) : x = y := by
  induction A with
  | nil => cases hx
  | cons a A ih =>
    obtain ⟨h1, h2⟩ := List.pairwise_cons.1 h
    rcases List.mem_cons.1 hx with ex | hx'
    · rcases List.mem_cons.1 hy with ey | hy'
      · rw [ex, ey]
      · exact absurd (ex ▸ e) (h1 y hy')
    · rcases List.mem_cons.1 hy with ey | hy'
      · exact absurd (ey ▸ e).symm (h1 x hx')
      · exact ih h2 hx' hy'
theorem pair_blocks {A : List Ent} (hb : A.Pairwise (fun x y => x.b ≠ y.b)) (hn : A.Pairwise (fun x y => x.n ≠ y.n)) {x y : Ent} (hx : x ∈ A) (hy : y ∈ A) (h : x.n ≠ y.n) : x.b ≠ y.b := by
  induction A with
  | nil => cases hx
  | cons a A ih =>
    obtain ⟨h1, h2⟩ := List.pairwise_cons.1 hb
    obtain ⟨_, h4⟩ := List.pairwise_cons.1 hn
    rcases List.mem_cons.1 hx with ex | hx'
    · rcases List.mem_cons.1 hy with ey | hy'
      · exact absurd (by rw [ex, ey]) h
      · rw [ex]; exact h1 y hy'
    · rcases List.mem_cons.1 hy with ey | hy'
      · rw [ey]; exact fun c => h1 x hx' c.symm
      · exact ih h2 h4 hx' hy'
theorem len_delA {A : List Ent} (h : A.Pairwise (fun x y => x.n ≠ y.n)) {e : Ent} (he : e ∈ A) : (delA A e.n).length + 1 = A.length := by
  induction A with
  | nil => cases he
  | cons a A ih =>
    obtain ⟨h1, h2⟩ := List.pairwise_cons.1 h
    rcases List.mem_cons.1 he with rfl | he
    · have e1 : delA (e :: A) e.n = A := by
        unfold delA
        rw [List.filter_cons, if_neg (by simp), List.filter_eq_self.2]
        intro x hx; rw [decide_eq_true_eq]; exact fun c => h1 x hx c.symm
      rw [e1, List.length_cons]
    · have hne : a.n ≠ e.n := h1 e he
      have e1 : delA (a :: A) e.n = a :: delA A e.n := by
        unfold delA; rw [List.filter_cons, if_pos (by simpa using hne)]
      rw [e1, List.length_cons, List.length_cons, ih h2 he]
theorem kp_turned {W W' : World} {b : Nat} (h : W.mapTurned W' b) : Kp [b] W W' := by
  have g := h.grown
  exact ⟨g.os, g.tape, g.output, g.size, fun k hk hn => g.block k hk (fun e => hn (by simp [Option.some.inj e]))⟩

/-- One more. -/
theorem Tab.put {W : World} {tb mb : Nat} {A : List Ent} (h : Tab W tb mb A) {n : Nm} (hw : NmWf n) (hn : ∀ e ∈ A, e.n ≠ n) (hl : A.length < 8) {nb : Nat} {g : Gm} (hg : GB nb g W) (hi : GI g) (hb : nb ∉ blks A) :
    ∃ W', (Instr.mapUpdate 70 (.map (some mb)) (nv n) (.pointer (some ⟨nb, 0, none⟩))).run Try.prog W = .ok () W' ∧ Tab W' tb mb (A ++ [⟨n, nb, g⟩]) ∧ Kp [mb] W W' := by
  obtain ⟨D, ho, hd⟩ := h.own
  obtain ⟨W', hr, ho', ht⟩ := ho.store law74 Try.underlying70 (by unfold maxLen; omega) (nkey hw) (gp_some nb)
  have hk := kp_turned ht
  have hno := hd.no n hw hn
  have htidy := ho.tidy law74
  have hm : nb ≠ mb := fun c => by
    obtain ⟨a, ha, _⟩ := hg
    obtain ⟨es, cl, hm, _⟩ := ho
    rw [c, hm] at ha; cases ha
  have hsz : Maps.size (D.put (nl n) (.lit (.int .i64 (nb : Int)))) = A.length + 1 := by rw [Maps.size_put htidy, hno]; simp [hd.size]
  refine ⟨W', hr, ⟨(hk.block _ h.lt (by simp; exact h.ne1)).trans h.tbl, ⟨D.put (nl n) (.lit (.int .i64 (nb : Int))), ?_, ⟨fun e he z => ?_, fun m hm hc => ?_, ?_⟩⟩, fun e he => ?_, ?_, ?_, fun e he => ?_, fun e he => ?_, by simp; omega⟩, hk⟩
  · have := own_tight ho'
    rw [hsz] at this
    simpa using this
  · rw [List.mem_append, List.mem_singleton] at he
    rcases he with he | rfl
    · rw [Maps.atKey_put_other (fun c => hn e he (nl_inj (h.wf e he) hw c))]
      exact hd.at_ e he z
    · exact Maps.atKey_put_same ho.isMap (nl_key hw) _ z
  · have hc1 : n ≠ m := hc ⟨n, nb, g⟩ (by simp)
    rw [Maps.has_put_other (fun c => hc1 (nl_inj hw hm c.symm))]
    exact hd.no m hm (fun e he => hc e (by simp [he]))
  · rw [hsz]; simp
  · rw [List.mem_append, List.mem_singleton] at he
    rcases he with he | rfl
    · exact (h.grams e he).kp hk (by simp; exact (h.ne2 he).2)
    · exact hg.kp hk (by simpa using hm)
  · rw [List.pairwise_append]
    exact ⟨h.names, List.pairwise_singleton _ _, fun x hx y hy => by rw [List.mem_singleton] at hy; subst hy; exact hn x hx⟩
  · rw [List.pairwise_append]
    exact ⟨h.blocks, List.pairwise_singleton _ _, fun x hx y hy => by rw [List.mem_singleton] at hy; subst hy; exact fun c => hb (mem_blks.2 ⟨x, hx, c⟩)⟩
  · rw [List.mem_append, List.mem_singleton] at he
    rcases he with he | rfl
    · exact h.wf e he
    · exact hw
  · rw [List.mem_append, List.mem_singleton] at he
    rcases he with he | rfl
    · exact h.inv e he
    · exact hi

theorem da_del {D : DataW Unit} {A : List Ent} (hd : DA D A) (ht : Tidy D) (hp : A.Pairwise (fun x y => x.n ≠ y.n)) (hwf : ∀ e ∈ A, NmWf e.n) {e : Ent} (he : e ∈ A) : DA (D.del (nl e.n)) (delA A e.n) := by
  refine ⟨fun x hx z => ?_, fun m hm hc => ?_, ?_⟩
  · obtain ⟨h1, h2⟩ := mem_delA.1 hx
    rw [Maps.atKey_del_other (fun c => h2 (nl_inj (hwf x h1) (hwf e he) c))]
    exact hd.at_ x h1 z
  · by_cases hme : m = e.n
    · subst hme; exact Maps.has_del_same
    · rw [Maps.has_del_other (fun c => hme (nl_inj hm (hwf e he) c))]
      refine hd.no m hm fun x hx c => hc x (mem_delA.2 ⟨hx, fun c2 => hme (c ▸ c2)⟩) c
  · have h1 := Maps.size_del (k := nl e.n) ht
    have h2 : Maps.has D (nl e.n) = true := Maps.has_true_of_atKey (hd.at_ e he)
    rw [h2, if_pos rfl, hd.size, ← len_delA hp he] at h1
    omega
/-- One less. -/
theorem Tab.del {W : World} {tb mb : Nat} {A : List Ent} (h : Tab W tb mb A) {e : Ent} (he : e ∈ A) (ty : TypeId) :
    ∃ W', (Builtin.delete_ #[70, 74] ty #[.map (some mb), nv e.n]).run Try.prog W = .ok (.tuple #[]) W' ∧ Tab W' tb mb (delA A e.n) ∧ Kp [mb] W W' := by
  obtain ⟨D, ho, hd⟩ := h.own
  obtain ⟨W', hr, ho', ht⟩ := ho.drop law74 Try.underlying70 (nkey (h.wf e he)) ty
  have hk := kp_turned ht
  have hd' := da_del hd (ho.tidy law74) h.names h.wf he
  have hsub : ∀ x ∈ delA A e.n, x ∈ A := fun x hx => (mem_delA.1 hx).1
  refine ⟨W', hr, ⟨(hk.block _ h.lt (by simp; exact h.ne1)).trans h.tbl, ⟨_, ?_, hd'⟩, fun x hx => (h.grams x (hsub x hx)).kp hk (by simp; exact (h.ne2 (hsub x hx)).2), h.names.filter _, h.blocks.filter _, fun x hx => h.wf x (hsub x hx), fun x hx => h.inv x (hsub x hx), ?_⟩, hk⟩
  · have := own_tight ho'
    rwa [hd'.size] at this
  · have := len_delA h.names he
    have := h.le
    omega
/-- One that has changed. -/
theorem Tab.upd {W W' : World} {tb mb : Nat} {A : List Ent} (h : Tab W tb mb A) {e : Ent} (he : e ∈ A) {g : Gm} (hg : GB e.b g W') (hi : GI g) (hk : Kp [e.b] W W') : Tab W' tb mb (updA A e.n g) := by
  obtain ⟨D, ho, hd⟩ := h.own
  have hl : (updA A e.n g).length = A.length := by simp [updA]
  have hmem : ∀ x ∈ updA A e.n g, ∃ y ∈ A, y.n = x.n ∧ y.b = x.b := fun x hx => by
    rcases mem_updA hx with ⟨h1, _⟩ | ⟨h1, _, y, h2, h3, h4⟩
    · exact ⟨x, h1, rfl, rfl⟩
    · exact ⟨y, h2, h3.trans h1.symm, h4⟩
  refine ⟨(hk.block _ h.lt (by simp; exact fun c => (h.ne2 he).1 c.symm)).trans h.tbl, ⟨D, ?_, ⟨fun x hx z => ?_, fun m hm hc => ?_, by rw [hl]; exact hd.size⟩⟩, fun x hx => ?_, ?_, ?_, fun x hx => ?_, fun x hx => ?_, by rw [hl]; exact h.le⟩
  · rw [hl]; exact own_on ho (hk.block _ h.mlt (by simp; exact fun c => (h.ne2 he).2 c.symm))
  · obtain ⟨y, hy, e1, e2⟩ := hmem x hx
    rw [← e1, ← e2]; exact hd.at_ y hy z
  · refine hd.no m hm fun y hy c => ?_
    refine hc (if y.n = e.n then { y with g := g } else y) (List.mem_map.2 ⟨y, hy, rfl⟩) ?_
    split <;> exact c
  · rcases mem_updA hx with ⟨h1, h2⟩ | ⟨h1, h2, y, h3, h4, h5⟩
    · refine (h.grams x h1).kp hk (fun c => ?_)
      rw [List.mem_singleton] at c
      exact absurd c (pair_blocks h.blocks h.names h1 he h2)
    · have : y = e := uniq_name h.names h3 he h4
      subst this
      rw [← h5, h2]; exact hg
  · unfold updA; rw [List.pairwise_map]
    refine h.names.imp fun {x y} hxy => ?_
    show (if x.n = e.n then { x with g := g } else x).n ≠ (if y.n = e.n then { y with g := g } else y).n
    split <;> split <;> exact hxy
  · unfold updA; rw [List.pairwise_map]
    refine h.blocks.imp fun {x y} hxy => ?_
    show (if x.n = e.n then { x with g := g } else x).b ≠ (if y.n = e.n then { y with g := g } else y).b
    split <;> split <;> exact hxy
  · obtain ⟨y, hy, e1, e2⟩ := hmem x hx
    rw [← e1]; exact h.wf y hy
  · rcases mem_updA hx with ⟨h1, _⟩ | ⟨_, h2, _⟩
    · exact h.inv x h1
    · rw [h2]; exact hi
end Go.Proofs.Ytfnmcnbiahfnfaa
