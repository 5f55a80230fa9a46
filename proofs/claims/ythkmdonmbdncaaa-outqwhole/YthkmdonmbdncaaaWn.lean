/-
  The queue alone, new since w; what a piece is, said for the walks.
-/
import Derived.Test.YthkmdonmbdncaaaTq
namespace Go.Proofs.Ythkmdonmbdncaaa
open Go.RowKit
set_option linter.unusedVariables false
set_option linter.unusedSimpArgs false

/-- The queue, new since w. -/
structure Own (w W : World) (b : Nat) (v : Value) (t : St) : Prop where
  own : OT b v t W
  ok : Ok t
  be : Below w.heap.size w W
  lo : w.heap.size ≤ b
section
variable {w W W' : World} {b : Nat} {v v' : Value} {t t' : St}
theorem Own.on (h : Own w W b v t) (hb : Below W.heap.size W W') : Own w W' b v t := ⟨h.own.keep hb, h.ok, h.be.trans (hb.mono h.be.size), h.lo⟩
theorem Own.drewN (h : Own w W b v t) (n : Nat) : Own w (W.drewN n) b v t := h.on (below_drewN W n)
theorem Own.drew (h : Own w W b v t) : Own w W.drew b v t := h.on ((Below.refl _ _).drew)
theorem Own.alloc (h : Own w W b v t) (o : Obj) : Own w (W.alloc o) b v t := h.on ((Below.refl _ _).alloc (Nat.le_refl _) _)
theorem Own.low (h : Own w W b v t) : ∀ k ∈ b :: rw' v, w.heap.size ≤ k := by
  intro k hk
  rcases List.mem_cons.1 hk with e | e
  · rw [e]; exact h.lo
  · unfold rw' at e
    have := (h.own.own.lt k (by simpa using e)).1
    exact Nat.le_trans h.lo this
theorem Own.put (h : Own w W b v t) (ht : OT b v' t' W') (ok : Ok t') (hk : Kp (b :: rw' v) W W') : Own w W' b v' t' := ⟨ht, ok, h.be.trans (hk.below h.be.size h.low), h.lo⟩
theorem Own.put1 (h : Own w W b v t) (ht : OT b v t' W') (ok : Ok t') (hk : Kp [b] W W') : Own w W' b v t' := h.put ht ok (hk.mono (by simp))
theorem SB.ko {bx : Nat} {cs : List Value} (hs : SB bx cs W) (h : Own w W b v t) (hk : Kp (b :: rw' v) W W') : SB bx cs W' :=
  (hk.block _ hs.lt (h.own.not_mem hs (by decide) (fun e => by have a := h.own.blk; rw [← e, hs] at a; injection a with a; injection a with _ a; exact absurd a (by decide)))).trans hs
end

/-- What goes out is nothing. -/
theorem nx_none (t : St) (lim mss : Int) (ok : Ok t) (h : ¬ go? (lst t) t.sh t.c lim mss) : nxP t lim mss = pc0 ∧ nxG t lim mss = false ∧ nx t lim mss = t := by
  have e1 : nxP t lim mss = pc0 := by unfold nxP py pz; rw [if_neg h]
  refine ⟨e1, decide_eq_false h, ?_⟩
  have e2 : nxC t lim mss = t.c := by unfold nxC; rw [e1]; show t.c + 0 = t.c; omega
  unfold nx
  rw [e2]
  have := ok.cs
  cases t
  simp only [St.mk.injEq, true_and]
  dsimp only at this
  omega
/-- SYN goes out. -/
theorem nx_syn (t : St) (lim mss : Int) (h : go? (lst t) t.sh t.c lim mss) (h0 : t.c = 0) : nxP t lim mss = ⟨0, true, false, ⟨#[]⟩⟩ ∧ nxG t lim mss = true ∧ nxC t lim mss = 1 := by
  have e1 : nxP t lim mss = ⟨0, true, false, ⟨#[]⟩⟩ := by unfold nxP py pz; rw [if_pos h, if_pos h0]
  refine ⟨e1, decide_eq_true h, ?_⟩
  unfold nxC; rw [e1, h0]; rfl
/-- Bytes go out, or FIN, or both. -/
structure Goes (t : St) (lim mss : Int) (p : Pc) : Prop where
  at' : p.at' = t.c
  syn : p.syn = false
  z0 : (p.body.size : Int) ≤ mss
  z1 : t.c + (p.body.size : Int) ≤ (t.A.size : Int) + 1
  z2 : t.c + (p.body.size : Int) ≤ lim
  body : p.body = t.A.extract (t.c - 1).toNat (t.c - 1 + (p.body.size : Int)).toNat
  fin1 : p.fin = true → t.sh = true ∧ t.c + (p.body.size : Int) = (t.A.size : Int) + 1 ∧ t.c + (p.body.size : Int) < lim
  fin0 : p.fin = false → 0 < (p.body.size : Int)
  c : nxC t lim mss = t.c + (p.body.size : Int) + (if p.fin = true then 1 else 0)
theorem nx_goes (t : St) (lim mss : Int) (ok : Ok t) (h : go? (lst t) t.sh t.c lim mss) (h0 : t.c ≠ 0) : Goes t lim mss (nxP t lim mss) ∧ nxG t lim mss = true := by
  refine ⟨?_, decide_eq_true h⟩
  have hc0 : 0 ≤ t.c := by have := ok.u0; have := ok.uc; omega
  obtain ⟨g1, g2⟩ := h
  obtain ⟨e0, e1⟩ := en_le (lst t) t.sh
  have hz0 : t.c ≤ bh (lst t) t.c lim mss := by unfold bh lst at *; omega
  have hz1 : bh (lst t) t.c lim mss ≤ lst t := by unfold bh lst at *; omega
  have hz2 : bh (lst t) t.c lim mss ≤ lim := by unfold bh lst at *; omega
  have hz3 : bh (lst t) t.c lim mss ≤ t.c + mss := by unfold bh lst at *; omega
  have hz4 : bh (lst t) t.c lim mss = t.c → lst t = t.c := by unfold bh lst at *; omega
  have e : nxP t lim mss = ⟨t.c, false, t.sh && decide (bh (lst t) t.c lim mss = lst t) && decide (bh (lst t) t.c lim mss < lim), t.A.extract (t.c - 1).toNat (bh (lst t) t.c lim mss - 1).toNat⟩ := by
    unfold nxP py pz; rw [if_pos ⟨g1, g2⟩, if_neg h0]
  have hl : nxC t lim mss = t.c + plen (nxP t lim mss) := rfl
  rw [e] at hl
  rw [e]
  generalize bh (lst t) t.c lim mss = z at *
  have hs : (t.A.extract (t.c - 1).toNat (z - 1).toNat).size = (z - t.c).toNat := by unfold lst at *; simp; omega
  refine ⟨rfl, rfl, ?_, ?_, ?_, ?_, ?_, ?_, ?_⟩
  · dsimp only; omega
  · dsimp only; unfold lst at *; omega
  · dsimp only; omega
  · dsimp only; rw [hs]; congr 1; omega
  · dsimp only
    intro hf
    simp only [Bool.and_eq_true, decide_eq_true_eq] at hf
    rw [hs]
    unfold lst at *
    exact ⟨hf.1.1, by omega, by omega⟩
  · dsimp only
    intro hf
    rw [hs]
    by_cases hzc : z = t.c
    · exfalso
      have h1 := hz4 hzc
      have h2 : t.sh = true := en_shut (l := lst t) (by omega)
      rw [h2, hzc, h1] at hf
      simp at hf
      omega
    · omega
  · dsimp only
    rw [hl]
    unfold plen
    dsimp only
    simp; omega
theorem no_text {T : ByteArray} (h : (T.size : Int) ≤ 0) : T.toList.isEmpty = true := by
  rw [ByteArray.toList_eq, List.isEmpty_iff]
  apply List.eq_nil_of_length_eq_zero
  rw [Array.length_toList]
  show T.size = 0
  omega
theorem ne_text {T : ByteArray} (h : 0 < (T.size : Int)) : T.toList.isEmpty = false := by
  rw [ByteArray.toList_eq, List.isEmpty_eq_false_iff]
  intro e
  have := congrArg List.length e
  rw [Array.length_toList] at this
  have h2 : T.size = 0 := this
  omega
theorem bnd6 {t : St} (ok : Ok t) (hA : t.A.size ≤ 4503599627370496) : 0 ≤ t.u ∧ t.u ≤ t.c ∧ t.c ≤ t.s ∧ t.s ≤ 4503599627370498 ∧ t.s ≤ enI t ∧ enI t ≤ 4503599627370498 := by
  obtain ⟨b1, b2, b3, b4, b5, b6, b7, b8, b9⟩ := bnds ok hA
  exact ⟨b3, b4, b5, b6, b9, b8⟩
end Go.Proofs.Ythkmdonmbdncaaa
