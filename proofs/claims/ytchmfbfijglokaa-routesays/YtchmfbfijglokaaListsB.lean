/-
  Which entry a search finds: that with the most bits of all that have the address; what drops and adds make of a list. Plain mathematics.
-/
import Derived.Test.YtchmfbfijglokaaLists
import Derived.Test.YtchmfbfijglokaaFind
namespace Go.Proofs.Ytchmfbfijglokaa
set_option linter.unusedVariables false

theorem pre_mono (x : Nat) {n m : Nat} (h : n ≤ m) (hm : m ≤ 32) : pre x n ≤ pre x m := by
  induction m with
  | zero =>
    obtain rfl : n = 0 := by omega
    exact Nat.le_refl _
  | succ m ih =>
    by_cases e : n = m + 1
    · subst e; exact Nat.le_refl _
    · have := ih (by omega) (by omega)
      have := pre_succ x m (by omega)
      omega
theorem inP_pre {a b x : Nat} (h : inP a b x = true) : a = pre x b := by
  unfold inP at h; rw [decide_eq_true_eq] at h; exact h.symm
/-- Of two that have x the one behind has more bits. -/
theorem lt_bits {e f : Ent} {x : Nat} (h : Ent.lt e f) (he : inP e.a e.b x = true) (hf : inP f.a f.b x = true) (hb : e.b ≤ 32) : e.b < f.b := by
  have h1 := inP_pre he
  have h2 := inP_pre hf
  unfold Ent.lt at h
  rcases h with h | h
  · apply Nat.lt_of_not_le
    intro hle
    have := pre_mono x hle hb
    omega
  · exact h.2
theorem findF_spec (x : Nat) : ∀ (L : List Ent) (acc : Option Ent), L.Pairwise Ent.lt →
    (∃ e, findF x acc L = some e ∧ e ∈ L ∧ inP e.a e.b x = true ∧ ∀ f ∈ L, inP f.a f.b x = true → f = e ∨ Ent.lt f e) ∨ (findF x acc L = acc ∧ ∀ f ∈ L, inP f.a f.b x = false)
  | [], acc, _ => Or.inr ⟨rfl, fun f hf => by cases hf⟩
  | y :: L, acc, hs => by
    rw [List.pairwise_cons] at hs
    rw [findF_cons]
    rcases findF_spec x L (if inP y.a y.b x = true then some y else acc) hs.2 with ⟨e, h1, h2, h3, h4⟩ | ⟨h1, h2⟩
    · refine Or.inl ⟨e, h1, List.mem_cons_of_mem _ h2, h3, fun f hf hfx => ?_⟩
      rcases List.mem_cons.1 hf with rfl | hf
      · exact Or.inr (hs.1 e h2)
      · exact h4 f hf hfx
    · cases hy : inP y.a y.b x with
      | true =>
        rw [hy, if_pos rfl] at h1
        refine Or.inl ⟨y, by simpa using h1, List.mem_cons_self, hy, fun f hf hfx => ?_⟩
        rcases List.mem_cons.1 hf with rfl | hf
        · exact Or.inl rfl
        · rw [h2 f hf] at hfx; cases hfx
      | false =>
        rw [hy] at h1
        refine Or.inr ⟨by simpa using h1, fun f hf => ?_⟩
        rcases List.mem_cons.1 hf with rfl | hf
        · exact hy
        · exact h2 f hf
theorem find_some {L : List Ent} {x : Nat} {e : Ent} (hg : Good L) (h : findF x none L = some e) : e ∈ L ∧ inP e.a e.b x = true ∧ ∀ f ∈ L, inP f.a f.b x = true → f = e ∨ f.b < e.b := by
  rcases findF_spec x L none hg.sorted with ⟨e', h1, h2, h3, h4⟩ | ⟨h1, _⟩
  · obtain rfl : e' = e := by rw [h1] at h; exact Option.some.inj h
    refine ⟨h2, h3, fun f hf hfx => ?_⟩
    rcases h4 f hf hfx with h5 | h5
    · exact Or.inl h5
    · exact Or.inr (lt_bits h5 hfx h3 (hg.range f hf).2)
  · rw [h1] at h; cases h
theorem find_none {L : List Ent} {x : Nat} (hg : Good L) (h : findF x none L = none) : ∀ f ∈ L, inP f.a f.b x = false := by
  rcases findF_spec x L none hg.sorted with ⟨e', h1, _⟩ | ⟨_, h1⟩
  · rw [h1] at h; cases h
  · exact h1
theorem find_isSome {L : List Ent} {x : Nat} {e : Ent} (hg : Good L) (he : e ∈ L) (hx : inP e.a e.b x = true) : (findF x none L).isSome = true := by
  cases h : findF x none L with
  | some _ => rfl
  | none => rw [find_none hg h e he] at hx; cases hx

theorem hasE_mem {L : List Ent} {e : Ent} (h : e ∈ L) : hasE e.a e.b L = true := by
  unfold hasE; rw [List.any_eq_true]; exact ⟨e, h, (isK_iff _ _ _).2 ⟨rfl, rfl⟩⟩
theorem hasE_iff {L : List Ent} {a b : Nat} : hasE a b L = true ↔ ∃ e ∈ L, e.a = a ∧ e.b = b := by
  unfold hasE; rw [List.any_eq_true]
  exact ⟨fun ⟨e, h1, h2⟩ => ⟨e, h1, (isK_iff _ _ _).1 h2⟩, fun ⟨e, h1, h2⟩ => ⟨e, h1, (isK_iff _ _ _).2 h2⟩⟩
theorem mem_delE {L : List Ent} {a b : Nat} {e : Ent} : e ∈ delE a b L ↔ e ∈ L ∧ ¬ (e.a = a ∧ e.b = b) := by
  unfold delE; rw [List.mem_filter]
  constructor
  · rintro ⟨h1, h2⟩
    refine ⟨h1, fun h => ?_⟩
    rw [(isK_iff a b e).2 h] at h2; cases h2
  · rintro ⟨h1, h2⟩
    exact ⟨h1, by rw [(isK_false a b e).2 h2]; rfl⟩
theorem hasE_delE {L : List Ent} {a b : Nat} : hasE a b (delE a b L) = false := by
  cases h : hasE a b (delE a b L) with
  | false => rfl
  | true =>
    obtain ⟨e, h1, h2⟩ := hasE_iff.1 h
    exact absurd h2 (mem_delE.1 h1).2
theorem good_key {L : List Ent} (hg : Good L) {e f : Ent} (he : e ∈ L) (hf : f ∈ L) (ha : e.a = f.a) (hb : e.b = f.b) : e = f := by
  obtain ⟨i, hi, rfl⟩ := List.getElem_of_mem he
  obtain ⟨j, hj, rfl⟩ := List.getElem_of_mem hf
  have := List.pairwise_iff_getElem.1 hg.sorted
  rcases Nat.lt_trichotomy i j with h | h | h
  · have := this i j hi hj h; unfold Ent.lt at this; omega
  · subst h; rfl
  · have := this j i hj hi h; unfold Ent.lt at this; omega
theorem Good.chk {L : List Ent} (hg : Good L) {e : Ent} (he : e ∈ L) : chk e.a e.b = 0 := by
  have h1 := hg.align e he
  have h2 := hg.range e he
  unfold Ytchmfbfijglokaa.chk wid
  rw [if_neg (by omega), Int.toNat_natCast, if_pos h1]
theorem Good.del {L : List Ent} (hg : Good L) (a b : Nat) : Good (delE a b L) := by
  refine ⟨hg.sorted.filter _, fun e he => hg.align e (mem_delE.1 he).1, fun e he => hg.range e (mem_delE.1 he).1, ?_⟩
  have : (delE a b L).length ≤ L.length := List.length_filter_le _ _
  have := hg.many
  omega
/-- An entry that is there is dropped. -/
theorem drop_there {L : List Ent} (hg : Good L) {e : Ent} (he : e ∈ L) : dropC L e.a e.b = 0 ∧ dropL L e.a e.b = delE e.a e.b L := by
  have h : dropC L e.a e.b = 0 := by unfold dropC; rw [hg.chk he, Int.toNat_natCast, hasE_mem he]; simp
  exact ⟨h, by unfold dropL; rw [h, if_pos rfl, Int.toNat_natCast]⟩

/-- Where a prefix goes, what it had is found by a shorter one, which has it. -/
theorem find_shorter {L : List Ent} {x : Nat} {e q : Ent} (hg : Good L) (h : findF x none L = some e) (hq : findF x none (delE e.a e.b L) = some q) : q.b < e.b ∧ has q.a q.b e.a = true := by
  obtain ⟨h1, h2, h3⟩ := find_some hg h
  obtain ⟨k1, k2, k3⟩ := find_some (hg.del e.a e.b) hq
  obtain ⟨m1, m2⟩ := mem_delE.1 k1
  have hlt : q.b < e.b := by
    rcases h3 q m1 k2 with rfl | h4
    · exact absurd ⟨rfl, rfl⟩ m2
    · exact h4
  refine ⟨hlt, ?_⟩
  have r1 := hg.range e h1
  have r2 := hg.range q m1
  rw [has_inP r2.2 (hg.align q m1)]
  rw [inP_iff (hg.align q m1)]
  have i1 := (inP_iff (hg.align q m1)).1 k2
  have i2 := (inP_iff (hg.align e h1)).1 h2
  have e1 := inP_pre h2
  have e2 := inP_pre k2
  have := pre_mono x (Nat.le_of_lt hlt) r1.2
  omega

/-- The empty prefix has all. -/
theorem inP_all (x : Nat) (hx : x < 4294967296) : inP 0 0 x = true := by
  unfold inP; rw [decide_eq_true_eq]; rw [Nat.mod_eq_of_lt (by simpa using hx)]; omega
theorem chk_all : chk 0 0 = 0 := by unfold chk wid; simp
theorem insE_good {L : List Ent} (hg : Good L) (e : Ent) (ha : e.a % 2 ^ (32 - e.b) = 0) (hr : e.a < 4294967296 ∧ e.b ≤ 32) (hn : hasE e.a e.b L = false) (hm : L.length < 64) : Good (insE e L) := by
  refine ⟨?_, fun x hx => ?_, fun x hx => ?_, by rw [insE_length]; omega⟩
  · have hk : ∀ y ∈ L, ¬ (y.a = e.a ∧ y.b = e.b) := fun y hy h => by
      have := hasE_iff.2 ⟨y, hy, h⟩
      rw [hn] at this; cases this
    have hs := hg.sorted
    clear hg hn hm
    induction L with
    | nil => simp [insE]
    | cons y L ih =>
      rw [List.pairwise_cons] at hs
      rw [insE]
      split
      · rename_i hlt
        rw [List.pairwise_cons]
        refine ⟨fun z hz => ?_, ih (fun z hz => hk z (List.mem_cons_of_mem _ hz)) hs.2⟩
        rcases (mem_insE e z L).1 hz with rfl | hz
        · exact hlt
        · exact hs.1 z hz
      · rename_i hnl
        have hy := hk y List.mem_cons_self
        have hey : Ent.lt e y := by unfold Ent.lt; omega
        rw [List.pairwise_cons, List.pairwise_cons]
        refine ⟨fun z hz => ?_, hs⟩
        rcases List.mem_cons.1 hz with rfl | hz
        · exact hey
        · have := hs.1 z hz
          unfold Ent.lt at *
          omega
  · rcases (mem_insE e x L).1 hx with rfl | hx
    · exact ha
    · exact hg.align x hx
  · rcases (mem_insE e x L).1 hx with rfl | hx
    · exact hr
    · exact hg.range x hx
/-- What is added and dropped was never there. -/
theorem del_ins {L : List Ent} {e : Ent} (hn : hasE e.a e.b L = false) : delE e.a e.b (insE e L) = L := by
  induction L with
  | nil => simp [insE, delE, isK]
  | cons y L ih =>
    have e1 : hasE e.a e.b (y :: L) = (isK e.a e.b y || hasE e.a e.b L) := rfl
    rw [e1, Bool.or_eq_false_iff] at hn
    rw [insE]
    split
    · have : delE e.a e.b (y :: insE e L) = y :: delE e.a e.b (insE e L) := by unfold delE; rw [List.filter_cons, if_pos (by rw [hn.1]; rfl)]
      rw [this, ih hn.2]
    · have : delE e.a e.b (e :: y :: L) = delE e.a e.b (y :: L) := by unfold delE; rw [List.filter_cons, if_neg (by simp [isK])]
      rw [this]
      exact delE_none (by rw [e1, hn.1, hn.2]; rfl)
/-- The first entry is dropped: the rest is left. -/
theorem del_first {y : Ent} {L : List Ent} (hs : (y :: L).Pairwise Ent.lt) : delE y.a y.b (y :: L) = L := by
  rw [List.pairwise_cons] at hs
  have : delE y.a y.b (y :: L) = delE y.a y.b L := by unfold delE; rw [List.filter_cons, if_neg (by simp [isK])]
  rw [this]
  apply delE_same
  intro z hz
  have := hs.1 z hz
  unfold Ent.lt at this
  omega
theorem Good.tail {y : Ent} {L : List Ent} (hg : Good (y :: L)) : Good L := by
  refine ⟨(List.pairwise_cons.1 hg.sorted).2, fun e he => hg.align e (List.mem_cons_of_mem _ he), fun e he => hg.range e (List.mem_cons_of_mem _ he), ?_⟩
  have := hg.many
  simp at this
  omega
end Go.Proofs.Ytchmfbfijglokaa
