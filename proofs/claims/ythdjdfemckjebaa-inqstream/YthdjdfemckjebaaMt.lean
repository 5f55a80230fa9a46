/-
  What a call of Put leaves as it was.
-/
import Derived.Test.YthdjdfemckjebaaMs
namespace Go.Proofs.Ythdjdfemckjebaa
set_option linter.unusedVariables false
set_option linter.unusedSimpArgs false

theorem St.ext' {t u : St} (h1 : t.c = u.c) (h2 : t.f = u.f) (h3 : t.n = u.n) (h4 : t.r = u.r) (h5 : t.e = u.e) : t = u := by
  cases t; cases u; simp_all
theorem nput_same {t : St} (ok : Ok t) {q : Int} {x : ByteArray} (h : cput t q x = t.c) : nput t q x = t.n :=
  (nput_eq ok q x (Nat.le_refl _) (fun p h1 h2 => by omega) (by rw [h]; exact ok.at')).symm
/-- Nothing is taken, and FIN isn't known anew: all stays. -/
theorem put_same {t : St} (ok : Ok t) (q : Int) (x : ByteArray) (fin : Bool) (h1 : ∀ p : Nat, fr t q ≤ (p : Int) → (p : Int) < bh t q x → (t.c p).isSome = true) (h2 : rput t q x = t.r) (h3 : fin = true → ¬ kn t q x) : put t q x fin = t := by
  unfold put
  split
  · rfl
  · have hc : cput t q x = t.c := by
      funext p
      unfold cput
      split
      · rfl
      · rename_i hs
        rw [if_neg (fun h => hs (h1 p h.1 h.2))]
        cases hc : t.c p with
        | none => rfl
        | some y => rw [hc] at hs; simp at hs
    refine St.ext' hc rfl (nput_same ok hc) h2 ?_
    show eput t q x fin = t.e
    unfold eput
    exact if_neg (fun h => h3 h.1 h.2)
theorem moved_same {t : St} {q : Int} {x : ByteArray} {fin : Bool} (h : put t q x fin = t) : moved t q x fin = false := by
  unfold moved; rw [h]; exact decide_eq_false (by omega)
/-- What lies wholly ahead of Next, or behind all that is let in. -/
theorem put_away {t : St} (ok : Ok t) (q : Int) (x : ByteArray) (fin : Bool) (h : bh t q x ≤ fr t q) (h3 : fin = true → ¬ kn t q x) : put t q x fin = t :=
  put_same ok q x fin (fun p h1 h2 => by omega) (by unfold rput; exact if_neg (by omega)) h3
theorem put_e (t : St) (q : Int) (x : ByteArray) : (put t q x false).e = t.e := by
  unfold put
  split
  · rfl
  · show eput t q x false = t.e
    unfold eput; simp
theorem put_ff (t : St) (q : Int) (x : ByteArray) (fin : Bool) : (put t q x fin).f = t.f := by unfold put; split <;> rfl
/-- What comes once more changes nothing. -/
theorem put_twice {t : St} (ok : Ok t) (he : t.e = 0) (q : Int) (x : ByteArray) (fin : Bool) : put (put t q x fin) q x fin = put t q x fin := by
  cases ho : off t q with
  | true =>
    have h : put t q x fin = t := by unfold put; rw [if_pos ho]
    rw [h, h]
  | false =>
    obtain ⟨u, hu⟩ : ∃ u, u = put t q x fin := ⟨_, rfl⟩
    have h : u = ⟨cput t q x, t.f, nput t q x, rput t q x, eput t q x fin⟩ := by rw [hu]; unfold put; rw [if_neg (by rw [ho]; simp)]
    have ok2 : Ok u := by rw [hu]; exact ok.put q x fin
    rw [← hu]
    have uc : u.c = cput t q x := by rw [h]
    have uf : u.f = t.f := by rw [h]
    have un : u.n = nput t q x := by rw [h]
    have ur : u.r = rput t q x := by rw [h]
    have ue : u.e = eput t q x fin := by rw [h]
    clear h hu
    have hn := nput_ge t q x
    have hb : bh t q x = min (q + x.size) (t.f + 2048) := by unfold bh; rw [he]; simp
    have hb2 : bh u q x ≤ bh t q x := by rw [hb]; have := bh_le u q x; rw [uf] at this; omega
    have hf2 : fr t q ≤ fr u q := by unfold fr; rw [un]; omega
    refine put_same ok2 q x fin (fun p h1 h2 => ?_) ?_ (fun hfin hk => ?_)
    · rw [uc]; exact cput_isSome.2 (Or.inr ⟨by omega, by omega⟩)
    · unfold rput
      split
      · rename_i hl
        rw [ur]
        have : rput t q x = max t.r (bh t q x).toNat := by unfold rput; exact if_pos (by omega)
        rw [this]; omega
      · rfl
    · obtain ⟨k1, k2, k3, k4⟩ := hk
      have hr0 : rput t q x ≤ rput u q x := by
        have : u.r ≤ rput u q x := by unfold rput; split <;> omega
        omega
      have hkn : kn t q x := ⟨he, by omega, by omega, by omega⟩
      have : eput t q x fin = (q + x.size).toNat := by unfold eput; exact if_pos ⟨hfin, hkn⟩
      have := ok.f1
      have := ok.fn
      omega
end Go.Proofs.Ythdjdfemckjebaa
