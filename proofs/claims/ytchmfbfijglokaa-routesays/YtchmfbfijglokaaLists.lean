/-
  What a search in a list of entries makes of one entry more, one less. Plain mathematics.
-/
import Derived.Test.YtchmfbfijglokaaTbl
namespace Go.Proofs.Ytchmfbfijglokaa
set_option linter.unusedVariables false

theorem findF_cons (x : Nat) (acc : Option Ent) (e : Ent) (L : List Ent) : findF x acc (e :: L) = findF x (if inP e.a e.b x = true then some e else acc) L := rfl
theorem findF_insE (x : Nat) (e : Ent) (h : inP e.a e.b x = false) : ∀ (L : List Ent) (acc : Option Ent), findF x acc (insE e L) = findF x acc L
  | [], acc => by rw [insE, findF_cons, h]; simp
  | y :: L, acc => by
    rw [insE]; split
    · rw [findF_cons, findF_cons, findF_insE x e h L]
    · rw [findF_cons, h]; simp
theorem has_in {a b x : Nat} (hb : b ≤ 32) (hm : a % 2 ^ (32 - b) = 0) : has a b x = inP a b x := by
  unfold has inP chk wid
  rw [if_neg (by omega), Int.toNat_natCast, if_pos hm]
  simp
theorem has_false_inP {a : Nat} {b : Int} {x : Nat} (h : has a b x = false) (hc : chk a b = 0) : inP a b.toNat x = false := by
  obtain ⟨h1, h2, h3⟩ := chk_ok hc
  obtain ⟨n, rfl⟩ := Int.eq_ofNat_of_zero_le h1
  unfold wid at h3
  rw [Int.toNat_natCast] at h3 ⊢
  rw [← has_in (by omega) h3]; exact h
theorem addC_chk {L : List Ent} {a : Nat} {b : Int} (h : addC L a b = 0) : chk a b = 0 ∧ hasE a b.toNat L = false ∧ L.length ≠ 64 := by
  unfold addC at h
  by_cases hc : chk a b = 0
  · rw [if_neg (by simp [hc])] at h
    cases hh : hasE a b.toNat L with
    | true => rw [hh] at h; simp at h
    | false =>
      rw [hh] at h
      simp only [Bool.false_eq_true, if_false] at h
      split at h
      · omega
      · exact ⟨hc, rfl, by assumption⟩
  · rw [if_pos hc] at h; exact absurd h hc
theorem dropC_chk {L : List Ent} {a : Nat} {b : Int} (h : dropC L a b = 0) : chk a b = 0 ∧ hasE a b.toNat L = true := by
  unfold dropC at h
  by_cases hc : chk a b = 0
  · rw [if_neg (by simp [hc])] at h
    cases hh : hasE a b.toNat L with
    | true => exact ⟨hc, rfl⟩
    | false => rw [hh] at h; simp at h
  · rw [if_pos hc] at h; exact absurd h hc
/-- What is added beside an address is of no matter for it. -/
theorem find_add {L : List Ent} {a : Nat} {b v : Int} {x : Nat} (h : has a b x = false) : findF x none (addL L a b v) = findF x none L := by
  unfold addL
  split
  · rename_i hc
    exact findF_insE x _ (has_false_inP h (addC_chk hc).1) L none
  · rfl
end Go.Proofs.Ytchmfbfijglokaa
