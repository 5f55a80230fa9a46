/-
  A list of fragments, and what the table keeps of it.
-/
import Derived.Test.YtfnmcnbiahfnfaaEc
import Derived.Test.YtfnmcnbiahfnfaaDa
import Derived.Test.YtfnmcnbiahfnfaaMs
namespace Go.Proofs.Ytfnmcnbiahfnfaa
open Go.RowKit
set_option linter.unusedVariables false
set_option linter.unusedSimpArgs false

/-- Where a fragment's bytes begin. -/
def osn (p : Pk) : Nat := p.off.toNat * 8
/-- A fragment by itself, with nothing wrong. -/
structure Fg (p : Pk) : Prop where
  chk : chk p = 0
  ffl : ffl p = 0
  part : ¬ (p.more = false ∧ p.off = 0)
theorem Fg.off {p : Pk} (h : Fg p) : p.off = (p.off.toNat : Int) := by have := (chk_zero h.chk).2.2.2.1; omega
theorem Fg.fend {p : Pk} (h : Fg p) : fend p = ((osn p + p.body.size : Nat) : Int) := by
  have := h.off
  unfold Go.Proofs.Ytfnmcnbiahfnfaa.fend osn
  omega
theorem Fg.le {p : Pk} (h : Fg p) : osn p + p.body.size ≤ 4000 := by
  have h1 := h.ffl
  have h2 := h.fend
  unfold Go.Proofs.Ytfnmcnbiahfnfaa.ffl at h1
  split at h1
  · cases h1
  · split at h1
    · cases h1
    · omega
theorem Fg.size {p : Pk} (h : Fg p) (hm : p.more = true) : 0 < p.body.size := by
  have h1 := h.ffl
  unfold Go.Proofs.Ytfnmcnbiahfnfaa.ffl at h1
  split at h1
  · cases h1
  · rename_i hn
    rcases Nat.eq_zero_or_pos p.body.size with h0 | h0
    · exact absurd ⟨hm, Or.inl h0⟩ hn
    · exact h0
theorem Fg.first {p : Pk} (h : Fg p) (h0 : p.off = 0) : 0 < p.body.size ∧ osn p = 0 := by
  refine ⟨h.size ?_, by unfold osn; rw [h0]; rfl⟩
  cases hm : p.more with
  | true => rfl
  | false => exact absurd ⟨hm, h0⟩ h.part
theorem Fg.pos {p : Pk} (h : Fg p) : 0 < osn p + p.body.size := by
  by_cases h0 : p.off = 0
  · have := (h.first h0).1; omega
  · have := h.off; unfold osn; omega
theorem osn_zero {p : Pk} (h : Fg p) (h0 : osn p = 0) : p.off = 0 := by have := h.off; unfold osn at h0; omega
/-- What the table keeps of the fragments of a list. -/
structure SE (n : Nm) (g : Gm) (l : List Pk) : Prop where
  nm : ∀ q ∈ l, nmOf q = n
  fg : ∀ q ∈ l, Fg q
  here : ∀ q ∈ l, ∀ i, i < q.body.size → g.there (osn q + i) = true ∧ g.bytes (osn q + i) = q.body.data.toList.getD i 0
  some_ : ∀ j, g.there j = true → ∃ q ∈ l, osn q ≤ j ∧ j < osn q + q.body.size
  reach : ∀ q ∈ l, osn q + q.body.size ≤ g.reach
  last : ∀ q ∈ l, q.more = false → osn q + q.body.size = g.reach
  closed : g.closed = true ↔ ∃ q ∈ l, q.more = false
  top : g.reach = 0 ∨ ∃ q ∈ l, osn q + q.body.size = g.reach
  head : ∀ q, l.find? (fun q => decide (q.off = 0)) = some q → g.dont = q.dont ∧ g.ttl = q.ttl
  inv : GI g
theorem SE.zero (n : Nm) : SE n gm0 [] :=
  ⟨fun q h => (by cases h), fun q h => (by cases h), fun q h => (by cases h), fun j h => (by cases h), fun q h => (by cases h), fun q h => (by cases h), ⟨fun h => (by cases h), fun ⟨q, h, _⟩ => (by cases h)⟩, Or.inl rfl, fun q h => (by cases h), gm0_inv⟩
theorem gdiff_iff {g : Gm} {p : Pk} : gdiff g p p.body.size = true ↔ ∃ j, j < p.body.size ∧ g.there (osn p + j) = true ∧ g.bytes (osn p + j) ≠ p.body.data.toList.getD j 0 := by
  unfold gdiff osn
  rw [List.any_eq_true]
  constructor
  · rintro ⟨j, hj, h⟩
    rw [Bool.and_eq_true, bne_iff_ne] at h
    exact ⟨j, List.mem_range.1 hj, h.1, h.2⟩
  · rintro ⟨j, hj, h1, h2⟩
    exact ⟨j, List.mem_range.2 hj, by rw [Bool.and_eq_true, bne_iff_ne]; exact ⟨h1, h2⟩⟩
theorem fdiff_iff {a b : Pk} : fdiff a b b.body.size = true ↔ ∃ i, i < b.body.size ∧ osn a ≤ osn b + i ∧ osn b + i < osn a + a.body.size ∧ a.body.data.toList.getD (osn b + i - osn a) 0 ≠ b.body.data.toList.getD i 0 := by
  unfold fdiff osn
  rw [List.any_eq_true]
  constructor
  · rintro ⟨j, hj, h⟩
    rw [Bool.and_eq_true, Bool.and_eq_true, bne_iff_ne, decide_eq_true_eq, decide_eq_true_eq] at h
    exact ⟨j, List.mem_range.1 hj, h.1.1, h.1.2, h.2⟩
  · rintro ⟨j, hj, h1, h2, h3⟩
    exact ⟨j, List.mem_range.2 hj, by rw [Bool.and_eq_true, Bool.and_eq_true, bne_iff_ne, decide_eq_true_eq, decide_eq_true_eq]; exact ⟨⟨h1, h2⟩, h3⟩⟩
section
variable {n : Nm} {g : Gm} {l : List Pk} {p : Pk}
theorem fight_iff {q : Pk} (hp : Fg p) (hq : Fg q) : fightB p q = true ↔ (fdiff p q q.body.size = true ∨ (p.more = false ∧ osn p + p.body.size < osn q + q.body.size) ∨ (q.more = false ∧ osn q + q.body.size < osn p + p.body.size)) := by
  unfold fightB
  rw [hp.fend, hq.fend]
  simp only [Bool.or_eq_true, Bool.and_eq_true, Bool.not_eq_true', decide_eq_true_eq, Int.ofNat_lt]
theorem pErr_iff (hp : Fg p) : pErr g p = true ↔ ((g.closed = true ∧ g.reach < osn p + p.body.size) ∨ (p.more = false ∧ osn p + p.body.size < g.reach)) ∨ gdiff g p p.body.size = true := by
  unfold pErr gends
  rw [hp.fend]
  simp only [Bool.or_eq_true, Bool.and_eq_true, Bool.not_eq_true', decide_eq_true_eq, Int.ofNat_lt]
theorem SE.err (h : SE n g l) (hp : Fg p) : l.any (fightB p) = pErr g p := by
  rw [Bool.eq_iff_iff, List.any_eq_true, pErr_iff hp]
  constructor
  · rintro ⟨q, hq, hf⟩
    rw [fight_iff hp (h.fg q hq)] at hf
    rcases hf with hf | ⟨h1, h2⟩ | ⟨h1, h2⟩
    · right
      rw [fdiff_iff] at hf
      obtain ⟨i, hi, h1, h2, h3⟩ := hf
      rw [gdiff_iff]
      obtain ⟨h4, h5⟩ := h.here q hq i hi
      refine ⟨osn q + i - osn p, by omega, ?_, ?_⟩
      · rw [show osn p + (osn q + i - osn p) = osn q + i from by omega]; exact h4
      · rw [show osn p + (osn q + i - osn p) = osn q + i from by omega, h5]; exact fun e => h3 e.symm
    · left; right
      have := h.reach q hq
      exact ⟨h1, by omega⟩
    · left; left
      have := h.last q hq h1
      exact ⟨h.closed.2 ⟨q, hq, h1⟩, by omega⟩
  · rintro ((⟨h1, h2⟩ | ⟨h1, h2⟩) | hg)
    · obtain ⟨q, hq, hm⟩ := h.closed.1 h1
      have := h.last q hq hm
      exact ⟨q, hq, (fight_iff hp (h.fg q hq)).2 (Or.inr (Or.inr ⟨hm, by omega⟩))⟩
    · rcases h.top with h3 | ⟨q, hq, h3⟩
      · omega
      · exact ⟨q, hq, (fight_iff hp (h.fg q hq)).2 (Or.inr (Or.inl ⟨h1, by omega⟩))⟩
    · rw [gdiff_iff] at hg
      obtain ⟨j, hj, h1, h2⟩ := hg
      obtain ⟨q, hq, h3, h4⟩ := h.some_ _ h1
      obtain ⟨_, h5⟩ := h.here q hq (osn p + j - osn q) (by omega)
      rw [show osn q + (osn p + j - osn q) = osn p + j from by omega] at h5
      refine ⟨q, hq, (fight_iff hp (h.fg q hq)).2 (Or.inl (fdiff_iff.2 ⟨osn p + j - osn q, by omega, by omega, by omega, ?_⟩))⟩
      rw [show osn q + (osn p + j - osn q) - osn p = j from by omega, ← h5]
      exact fun e => h2 e.symm
theorem gadd_there (g : Gm) (p : Pk) (i : Nat) : (gadd g p).there i = (g.there i || decide (osn p ≤ i ∧ i < osn p + p.body.size)) := by
  show ((ghead g p).there i || decide (p.off.toNat * 8 ≤ i ∧ i < p.off.toNat * 8 + p.body.size)) = _
  rw [(ghead_same g p).1]
  rfl
theorem gadd_bytes (g : Gm) (p : Pk) (i : Nat) : (gadd g p).bytes i = if osn p ≤ i ∧ i < osn p + p.body.size then p.body.data.toList.getD (i - osn p) 0 else g.bytes i := rfl
theorem gadd_reach (g : Gm) (p : Pk) : (gadd g p).reach = max g.reach (osn p + p.body.size) := rfl
theorem gadd_closed (g : Gm) (p : Pk) : (gadd g p).closed = (g.closed || !p.more) := rfl
theorem gadd_head (g : Gm) (p : Pk) : (gadd g p).dont = (ghead g p).dont ∧ (gadd g p).ttl = (ghead g p).ttl := ⟨rfl, rfl⟩
theorem SE.add (h : SE n g l) (hp : Fg p) (hn : nmOf p = n) (he : pErr g p = false) : SE n (gadd g p) (l ++ [p]) := by
  have he' : ¬ (((g.closed = true ∧ g.reach < osn p + p.body.size) ∨ (p.more = false ∧ osn p + p.body.size < g.reach)) ∨ gdiff g p p.body.size = true) := fun c => by
    rw [← pErr_iff hp, he] at c; cases c
  have e1 : g.closed = true → osn p + p.body.size ≤ g.reach := fun hc => by
    rcases Nat.lt_or_ge g.reach (osn p + p.body.size) with h1 | h1
    · exact absurd (Or.inl (Or.inl ⟨hc, h1⟩)) he'
    · exact h1
  have e2 : p.more = false → g.reach ≤ osn p + p.body.size := fun hc => by
    rcases Nat.lt_or_ge (osn p + p.body.size) g.reach with h1 | h1
    · exact absurd (Or.inl (Or.inr ⟨hc, h1⟩)) he'
    · exact h1
  have e3 : ∀ j, j < p.body.size → g.there (osn p + j) = true → g.bytes (osn p + j) = p.body.data.toList.getD j 0 := fun j hj ht => Classical.byContradiction fun hc => he' (Or.inr (gdiff_iff.2 ⟨j, hj, ht, hc⟩))
  have mem : ∀ q, q ∈ l ++ [p] ↔ q ∈ l ∨ q = p := fun q => by simp
  refine ⟨fun q hq => ?_, fun q hq => ?_, fun q hq i hi => ?_, fun j hj => ?_, fun q hq => ?_, fun q hq hm => ?_, ?_, ?_, fun q hq => ?_, gadd_inv h.inv hp.le⟩
  · rcases (mem q).1 hq with hq | rfl
    · exact h.nm q hq
    · exact hn
  · rcases (mem q).1 hq with hq | rfl
    · exact h.fg q hq
    · exact hp
  · rw [gadd_there, gadd_bytes]
    rcases (mem q).1 hq with hq | rfl
    · obtain ⟨h1, h2⟩ := h.here q hq i hi
      refine ⟨by rw [h1]; rfl, ?_⟩
      split
      · rename_i hc
        have := e3 (osn q + i - osn p) (by omega) (by rw [show osn p + (osn q + i - osn p) = osn q + i from by omega]; exact h1)
        rw [show osn p + (osn q + i - osn p) = osn q + i from by omega] at this
        rw [← this, h2]
      · exact h2
    · refine ⟨by rw [decide_eq_true (by omega)]; simp, ?_⟩
      rw [if_pos (by omega), show osn q + i - osn q = i from by omega]
  · rw [gadd_there, Bool.or_eq_true, decide_eq_true_eq] at hj
    rcases hj with hj | hj
    · obtain ⟨q, hq, h1⟩ := h.some_ j hj
      exact ⟨q, (mem q).2 (Or.inl hq), h1⟩
    · exact ⟨p, (mem p).2 (Or.inr rfl), hj⟩
  · rw [gadd_reach]
    rcases (mem q).1 hq with hq | rfl
    · have := h.reach q hq; omega
    · omega
  · rw [gadd_reach]
    rcases (mem q).1 hq with hq | rfl
    · have h1 := h.last q hq hm
      have h2 := e1 (h.closed.2 ⟨q, hq, hm⟩)
      omega
    · have := e2 hm; omega
  · rw [gadd_closed, Bool.or_eq_true, h.closed, Bool.not_eq_true']
    constructor
    · rintro (⟨q, hq, h1⟩ | h1)
      · exact ⟨q, (mem q).2 (Or.inl hq), h1⟩
      · exact ⟨p, (mem p).2 (Or.inr rfl), h1⟩
    · rintro ⟨q, hq, h1⟩
      rcases (mem q).1 hq with hq | rfl
      · exact Or.inl ⟨q, hq, h1⟩
      · exact Or.inr h1
  · right
    rw [gadd_reach]
    rcases Nat.lt_or_ge (osn p + p.body.size) g.reach with h1 | h1
    · rcases h.top with h2 | ⟨q, hq, h2⟩
      · omega
      · exact ⟨q, (mem q).2 (Or.inl hq), by omega⟩
    · exact ⟨p, (mem p).2 (Or.inr rfl), by omega⟩
  · rw [(gadd_head g p).1, (gadd_head g p).2]
    rw [List.find?_append] at hq
    cases hf : l.find? (fun q => decide (q.off = 0)) with
    | some x =>
      rw [hf] at hq
      obtain rfl : x = q := by simpa using hq
      have hx0 : x.off = 0 := by simpa using List.find?_some hf
      have hxm : x ∈ l := List.mem_of_find?_eq_some hf
      obtain ⟨h1, h2⟩ := (h.fg x hxm).first hx0
      have ht := (h.here x hxm 0 h1).1
      rw [h2] at ht
      unfold ghead
      rw [if_neg (fun c => by rw [c.2] at ht; cases ht)]
      exact h.head x hf
    | none =>
      rw [hf] at hq
      have hq : [p].find? (fun q => decide (q.off = 0)) = some q := by simpa using hq
      rw [List.find?_cons] at hq
      split at hq
      · rename_i hp0
        obtain rfl : p = q := by simpa using hq
        have hp0 : p.off = 0 := by simpa using hp0
        have ht : g.there 0 = false := by
          cases ht : g.there 0 with
          | false => rfl
          | true =>
            obtain ⟨x, hx, h1, _⟩ := h.some_ 0 ht
            have := List.find?_eq_none.1 hf x hx
            simp at this
            exact absurd (osn_zero (h.fg x hx) (by omega)) this
        unfold ghead
        rw [if_pos ⟨hp0, ht⟩]
        exact ⟨rfl, rfl⟩
      · simp at hq
end
end Go.Proofs.Ytfnmcnbiahfnfaa
