/-
  What the document's Put goes through, as plain data.
-/
import Derived.Test.YthdjdfemckjebaaRg
import Derived.Test.YthdjdfemckjebaaTk
namespace Go.Proofs.Ythdjdfemckjebaa
open Go.RowKit Go.Maps
set_option linter.unusedVariables false
set_option linter.unusedSimpArgs false

/-- What has come when the places ahead of z were gone over. -/
def cmz (t : St) (q : Int) (x : ByteArray) (z : Int) (p : Nat) : Option UInt8 := if (p : Int) < z then cput t q x p else t.c p
theorem cmz_start (t : St) (q : Int) (x : ByteArray) : cmz t q x q = t.c := by
  funext p
  unfold cmz
  split
  · exact cput_out (fun h => by have : q ≤ fr t q := by unfold fr; omega
                                omega)
  · rfl
theorem cmz_end (t : St) (q : Int) (x : ByteArray) : cmz t q x (q + x.size) = cput t q x := by
  funext p
  unfold cmz
  split
  · rfl
  · exact (cput_out (fun h => by have := bh_le t q x; omega)).symm
/-- Is a byte taken at z? -/
def tkz (t : St) (q : Int) (x : ByteArray) (z : Int) : Prop := 0 ≤ z ∧ t.c z.toNat = none ∧ fr t q ≤ z ∧ z < bh t q x
theorem cmz_stays {t : St} {q : Int} {x : ByteArray} {z : Int} (h : ¬ tkz t q x z) : cmz t q x (z + 1) = cmz t q x z := by
  funext p
  unfold cmz
  by_cases e : (p : Int) = z
  · rw [if_pos (by omega), if_neg (by omega)]
    by_cases h1 : fr t q ≤ (p : Int) ∧ (p : Int) < bh t q x
    · have h2 : (t.c p).isSome = true := by
        cases hc : t.c p with
        | some y => rfl
        | none => exact absurd ⟨by omega, by rw [show z.toNat = p from by omega]; exact hc, by omega, by omega⟩ h
      exact cput_some h2
    · exact cput_out h1
  · by_cases h1 : (p : Int) < z
    · rw [if_pos (by omega), if_pos h1]
    · rw [if_neg (by omega), if_neg h1]
theorem cmz_same {t : St} {q : Int} {x : ByteArray} {z : Nat} {p : Nat} (h : p ≠ z) : cmz t q x ((z : Int) + 1) p = cmz t q x z p := by
  unfold cmz
  by_cases h1 : (p : Int) < z
  · rw [if_pos (by omega), if_pos h1]
  · rw [if_neg (by omega), if_neg h1]
theorem cmz_at (t : St) (q : Int) (x : ByteArray) (z : Nat) : cmz t q x z z = t.c z := by unfold cmz; rw [if_neg (by omega)]
theorem cmz_new {t : St} {q : Int} {x : ByteArray} {z : Nat} (h : tkz t q x z) : cmz t q x ((z : Int) + 1) z = some (byt x q z) := by
  obtain ⟨_, h1, h2, h3⟩ := h
  have h1 : t.c z = none := h1
  unfold cmz cput
  rw [if_pos (by omega), h1, if_neg (by simp), if_pos ⟨h2, h3⟩]
/-- How many may have been taken. -/
def clam (t : St) (z : Int) : Nat := min (z - t.n).toNat 2048
theorem clam_le (t : St) (z : Int) : clam t z ≤ 2048 := by unfold clam; omega
theorem clam_mono (t : St) (z : Int) : clam t z ≤ clam t (z + 1) := by unfold clam; omega
theorem clam_new {t : St} (ok : Ok t) {q : Int} {x : ByteArray} {z : Int} (h : tkz t q x z) : clam t (z + 1) = clam t z + 1 := by
  obtain ⟨_, _, h2, h3⟩ := h
  have := bh_le t q x
  have : (t.n : Int) ≤ fr t q := by unfold fr; omega
  have := ok.fn
  unfold clam; omega
/-- The document's test, over letters: n Next, E the edge, g FIN. -/
theorem tkz_iff {t : St} {q : Int} {x : ByteArray} {z : Int} (h1 : q ≤ z) (h2 : z < q + x.size) (is : Bool) (his : is = true ↔ 0 ≤ z ∧ (t.c z.toNat).isSome = true) :
    tkz t q x z ↔ is = false ∧ (t.n : Int) ≤ z ∧ z < (t.f : Int) + 2048 ∧ ((t.e : Int) = 0 ∨ z < (t.e : Int)) := by
  have hb : bh t q x = if 0 < t.e then min (min (q + x.size) (t.f + 2048)) t.e else min (q + x.size) (t.f + 2048) := rfl
  have hf : fr t q = max q t.n := rfl
  unfold tkz
  rw [hf, hb]
  constructor
  · rintro ⟨a0, a1, a2, a3⟩
    refine ⟨?_, by omega, by split at a3 <;> omega, by split at a3 <;> omega⟩
    cases is with
    | false => rfl
    | true => have := (his.1 rfl).2; rw [a1] at this; cases this
  · rintro ⟨a0, a1, a2, a3⟩
    refine ⟨by omega, ?_, by omega, by split <;> omega⟩
    cases hc : t.c z.toNat with
    | none => rfl
    | some y => have := his.2 ⟨by omega, by rw [hc]; rfl⟩; rw [a0] at this; cases this
/-- All that came lies ahead of p: the furthest does. -/
theorem all_iff {t : St} (ok : Ok t) (q : Int) (x : ByteArray) (p : Int) (hp : (t.n : Int) ≤ p) : (∀ k : Nat, (cput t q x k).isSome = true → (k : Int) < p) ↔ (rput t q x : Int) ≤ p := by
  constructor
  · intro h
    rcases ok.rput_rx q x with e | ⟨k, h1, h2⟩
    · rw [e]; have := ok.f1; have := ok.fn; omega
    · have := h k h1; omega
  · intro h k hk
    have := ok.rput_rr q x k hk
    omega
section
variable {b mb : Nat} {c : Nat → Option UInt8} {f g m : Nat} {W : World}
theorem UM.lookAny (h : UM b mb c f g m W) (p : Int) (h1 : -9223372036854775808 ≤ p) (h2 : p ≤ 9223372036854775807) :
    ∃ (y : Int) (is : Bool), (Instr.lookup 57 (.map (some mb)) (.int .i64 p) true).run Try.prog W = .ok (.tuple #[.int .u8 y, .bool is]) W ∧ (is = true ↔ 0 ≤ p ∧ (c p.toNat).isSome = true) := by
  rcases Int.lt_or_le p 0 with h0 | h0
  · exact ⟨0, false, h.lookNeg p h0 h1, by simp; omega⟩
  · obtain ⟨n, rfl⟩ := Int.eq_ofNat_of_zero_le h0
    exact ⟨_, _, h.look n (by omega), by simp⟩
end
end Go.Proofs.Ythdjdfemckjebaa
