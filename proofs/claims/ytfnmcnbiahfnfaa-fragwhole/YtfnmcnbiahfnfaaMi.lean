/-
  What In makes of Split's pieces: mathematics.
-/
import Derived.Test.YtfnmcnbiahfnfaaMs
namespace Go.Proofs.Ytfnmcnbiahfnfaa
open Go.RowKit
set_option linter.unusedVariables false
set_option linter.unusedSimpArgs false

section
variable {p : Pk} {mtu : Int} {R n : Nat}
theorem Frm.chk (F : Frm p mtu R n) {j : Nat} (hj : j < n) : Go.Proofs.Ytfnmcnbiahfnfaa.chk (pk p R j) = 0 := by
  have hb := chk_zero F.bare
  have h1 := F.pkSize hj
  have h2 := F.sta_eq hj
  have h3 := F.sz
  have h4 := F.hi
  rw [sta_succ] at h1
  unfold Go.Proofs.Ytfnmcnbiahfnfaa.chk
  have e : (pk p R j).off = ((j * R / 8 : Nat) : Int) := rfl
  have e1 : (pk p R j).proto = p.proto := rfl
  have e2 : (pk p R j).ttl = p.ttl := rfl
  have e3 : (pk p R j).id = p.id := rfl
  have f1 : (Go.Proofs.Ytfnmcnbiahfnfaa.bare p).proto = p.proto := rfl
  have f2 : (Go.Proofs.Ytfnmcnbiahfnfaa.bare p).ttl = p.ttl := rfl
  have f3 : (Go.Proofs.Ytfnmcnbiahfnfaa.bare p).id = p.id := rfl
  rw [f1, f2, f3] at hb
  rw [if_neg, if_neg]
  · omega
  · unfold bads bad
    rw [e, e1, e2, e3]
    have : sta p R j ≤ p.body.size := by unfold sta; omega
    omega
theorem Frm.frag (F : Frm p mtu R n) (h2 : 2 ≤ n) {j : Nat} (hj : j < n) : ¬ ((pk p R j).more = false ∧ (pk p R j).off = 0) := by
  rintro ⟨h1, h3⟩
  rw [F.pkMore hj] at h1
  have h4 : ¬ (j + 1 < n) := by simpa using h1
  have h5 := F.off8 j
  rw [h3] at h5
  have h6 : 0 < j * R := Nat.mul_pos (by omega) (by have := F.lo; omega)
  simp at h5
  omega
theorem Frm.ffl (F : Frm p mtu R n) (h2 : 2 ≤ n) {j : Nat} (hj : j < n) : Go.Proofs.Ytfnmcnbiahfnfaa.ffl (pk p R j) = 0 := by
  obtain ⟨he, hf⟩ := F.endp h2 hj
  have h1 := (F.pkSize hj).1
  have h3 := F.sta_eq hj
  have h4 := F.sz
  have h8 := F.by8
  have hlo := F.lo
  rw [sta_succ] at h1
  unfold Go.Proofs.Ytfnmcnbiahfnfaa.ffl
  rw [if_neg, if_neg]
  · rw [hf]; omega
  · rintro ⟨hm, hc⟩
    rw [F.pkMore hj, decide_eq_true_eq] at hm
    have h5 := F.inside h2 hm
    rw [Nat.add_mul, Nat.one_mul] at h5
    rw [h1] at hc
    omega
theorem in_pk (F : Frm p mtu R n) (h2 : 2 ≤ n) {j : Nat} (hj : j < n) (B : List (Nm × Gm)) : inM B (pk p R j) = match lookB B (nmOf p) with
    | some g => (putVm (nmOf p) g (pk p R j), putB B (nmOf p) g (pk p R j))
    | none => if B.length = 8 then ((pz, false, 9), B) else (putVm (nmOf p) gm0 (pk p R j), putB (B ++ [(nmOf p, gm0)]) (nmOf p) gm0 (pk p R j)) := by
  have e : nmOf (pk p R j) = nmOf p := rfl
  unfold inM
  rw [F.chk hj, F.ffl h2 hj, if_neg (by simp), if_neg (F.frag h2 hj), if_neg (by simp), e]
  rfl
/-- What put makes of a piece, when it is the last that lacks, and when it is not. -/
theorem put_last {J : Nat → Bool} {g : Gm} (F : Frm p mtu R n) (h2 : 2 ≤ n) {j : Nat} (hj : j < n) (S : PSt p R n J g) (ha : ∀ i, i < n → (J i || decide (i = j)) = true) (B : List (Nm × Gm)) :
    putVm (nmOf p) g (pk p R j) = (p, true, 0) ∧ putB B (nmOf p) g (pk p R j) = delB B (nmOf p) := by
  have he := S.err F h2 hj
  have hw := ((S.add F h2 hj).whole F h2).2 ha
  have hp := (S.add F h2 hj).packet F h2 ha
  unfold putVm putB
  rw [he, hw, if_neg (by simp), if_pos rfl, if_neg (by simp), if_pos rfl, hp]
  exact ⟨rfl, rfl⟩
theorem put_more {J : Nat → Bool} {g : Gm} (F : Frm p mtu R n) (h2 : 2 ≤ n) {j : Nat} (hj : j < n) (S : PSt p R n J g) (ha : ¬ ∀ i, i < n → (J i || decide (i = j)) = true) (B : List (Nm × Gm)) :
    putVm (nmOf p) g (pk p R j) = (pz, false, 0) ∧ putB B (nmOf p) g (pk p R j) = updB B (nmOf p) (gadd g (pk p R j)) := by
  have he := S.err F h2 hj
  have hw : ¬ (gwhole (gadd g (pk p R j)) = true) := fun hc => ha (((S.add F h2 hj).whole F h2).1 hc)
  unfold putVm putB
  rw [he, if_neg (by simp), if_neg hw, if_neg (by simp), if_neg hw]
  exact ⟨rfl, rfl⟩

/-- A table to which one piece has not come. -/
def Lk (p : Pk) (R n k : Nat) (B : List (Nm × Gm)) : Prop := B = [] ∨ ∃ g J, B = [(nmOf p, g)] ∧ PSt p R n J g ∧ J k = false
theorem Lk.step (F : Frm p mtu R n) (h2 : 2 ≤ n) {j k : Nat} (hj : j < n) (hk : k < n) (hne : j ≠ k) {B : List (Nm × Gm)} (h : Lk p R n k B) : (inM B (pk p R j)).1 = (pz, false, 0) ∧ Lk p R n k (inM B (pk p R j)).2 := by
  rw [in_pk F h2 hj]
  rcases h with rfl | ⟨g, J, rfl, S, hJ⟩
  · have hna : ¬ ∀ i, i < n → ((fun _ => false) i || decide (i = j)) = true := fun hc => by
      have := hc k hk; simp at this; exact hne this.symm
    have e := put_more F h2 hj (pst_zero p R n) hna ([] ++ [(nmOf p, gm0)])
    show (putVm (nmOf p) gm0 (pk p R j)) = _ ∧ Lk p R n k (putB ([] ++ [(nmOf p, gm0)]) (nmOf p) gm0 (pk p R j))
    rw [e.1, e.2]
    refine ⟨rfl, Or.inr ⟨gadd gm0 (pk p R j), _, ?_, (pst_zero p R n).add F h2 hj, ?_⟩⟩
    · simp [updB]
    · show (false || decide (k = j)) = false
      simp; exact fun c => hne c.symm
  · have hna : ¬ ∀ i, i < n → (J i || decide (i = j)) = true := fun hc => by
      have := hc k hk; rw [hJ] at this; simp at this; exact hne this.symm
    have e := put_more F h2 hj S hna [(nmOf p, g)]
    have hl : lookB [(nmOf p, g)] (nmOf p) = some g := by simp [lookB]
    rw [hl]
    show (putVm (nmOf p) g (pk p R j)) = _ ∧ Lk p R n k (putB [(nmOf p, g)] (nmOf p) g (pk p R j))
    rw [e.1, e.2]
    refine ⟨rfl, Or.inr ⟨gadd g (pk p R j), _, ?_, S.add F h2 hj, ?_⟩⟩
    · simp [updB]
    · show (J k || decide (k = j)) = false
      rw [hJ]; simp; exact fun c => hne c.symm
theorem Lk.len {B : List (Nm × Gm)} {k : Nat} (h : Lk p R n k B) : B.length ≤ 1 := by
  rcases h with rfl | ⟨g, J, rfl, _⟩ <;> simp
end
end Go.Proofs.Ytfnmcnbiahfnfaa
