/-
  A queue as plain data: all that was ever written, Una, Cur, Sent; what each call does to it.
-/
import Derived.Test.YthkmdonmbdncaaaRx
import Derived.Test.YthkmdonmbdncaaaAq
namespace Go.Proofs.Ythkmdonmbdncaaa
open Go.RowKit
set_option linter.unusedVariables false
set_option linter.unusedSimpArgs false

structure St where
  A : ByteArray
  sh : Bool
  u : Int
  c : Int
  s : Int
def st0 : St := ⟨⟨#[]⟩, false, 0, 0, 0⟩
/-- The bytes that are kept. -/
def kept (t : St) : ByteArray := t.A.extract (t.u - 1).toNat t.A.size
/-- The place behind the last byte. -/
abbrev lst (t : St) : Int := (t.A.size : Int) + 1
theorem kept_size (t : St) : (kept t).size = t.A.size - (t.u - 1).toNat := by unfold kept; simp
structure Ok (t : St) : Prop where
  u0 : 0 ≤ t.u
  uc : t.u ≤ t.c
  cs : t.c ≤ t.s
  se : t.s ≤ en (lst t) t.sh
  kk : (kept t).size ≤ 2048
theorem st0_ok : Ok st0 := ⟨by decide, by decide, by decide, by decide, by decide⟩
theorem en_le (l : Int) (sh : Bool) : l ≤ en l sh ∧ en l sh ≤ l + 1 := by unfold en; split <;> omega
theorem en_shut {l : Int} {sh : Bool} (h : l < en l sh) : sh = true := by
  cases sh
  · unfold en at h; simp at h
  · rfl
def wN (t : St) (x : ByteArray) : Nat := min x.size (rm (kept t) t.sh)
def wr (t : St) (x : ByteArray) : St := ⟨t.A ++ x.extract 0 (wN t x), t.sh, t.u, t.c, t.s⟩
def cl (t : St) : St := ⟨t.A, true, t.u, t.c, t.s⟩
def bk (t : St) : St := ⟨t.A, t.sh, t.u, t.u, t.s⟩
def nxP (t : St) (lim mss : Int) : Pc := py t.A t.sh t.c lim mss
def nxC (t : St) (lim mss : Int) : Int := t.c + plen (nxP t lim mss)
def nx (t : St) (lim mss : Int) : St := ⟨t.A, t.sh, t.u, nxC t lim mss, max t.s (nxC t lim mss)⟩
def akN (t : St) (q : Int) : Int := if q ≤ t.u ∨ t.s < q then 0 else q - t.u
def ak (t : St) (q : Int) : St := if q ≤ t.u ∨ t.s < q then t else ⟨t.A, t.sh, q, max t.c q, t.s⟩

theorem wN_size (t : St) (x : ByteArray) : (x.extract 0 (wN t x)).size = wN t x := by unfold wN; simp
theorem wN_le (t : St) (x : ByteArray) : wN t x ≤ x.size ∧ wN t x ≤ 2048 ∧ (t.sh = true → wN t x = 0) ∧ (Ok t → (kept t).size + wN t x ≤ 2048) := by
  have h := rm_le (kept t) t.sh
  refine ⟨by unfold wN; omega, by unfold wN; omega, fun e => ?_, fun o => ?_⟩
  · unfold wN rm; rw [e]; simp
  · have := o.kk
    unfold wN rm; split <;> omega
theorem wr_size (t : St) (x : ByteArray) : (wr t x).A.size = t.A.size + wN t x := by
  show (t.A ++ x.extract 0 (wN t x)).size = _
  rw [ByteArray.size_append, wN_size]
section
variable {t : St}
/-- Una is at most the place behind the last byte, or all is over. -/
theorem Ok.una (h : Ok t) : (t.u - 1).toNat ≤ t.A.size ∨ t.sh = true := by
  obtain ⟨e0, e1⟩ := en_le (lst t) t.sh
  have := h.uc; have := h.cs; have := h.se
  by_cases hs : lst t < en (lst t) t.sh
  · exact Or.inr (en_shut hs)
  · left; unfold lst at *; omega
theorem kept_wr (h : Ok t) (x : ByteArray) : kept (wr t x) = kept t ++ x.extract 0 (wN t x) := by
  have hz := wN_size t x
  rcases h.una with hu | hs
  · apply ext_list
    unfold kept wr
    dsimp only
    rw [ByteArray.data_append, Array.toList_append, extract_list, extract_list, ByteArray.data_append, Array.toList_append, List.take_of_length_le (by simp), List.take_of_length_le (by simp), List.drop_append_of_le_length (by simpa using hu)]
  · have h0 := (wN_le t x).2.2.1 hs
    have he : x.extract 0 (wN t x) = ⟨#[]⟩ := by rw [h0, ext_none]
    unfold kept wr
    dsimp only
    rw [he]
    have : t.A ++ (⟨#[]⟩ : ByteArray) = t.A := by apply ext_list; rw [ByteArray.data_append, Array.toList_append]; simp
    rw [this]
    apply ext_list; rw [ByteArray.data_append, Array.toList_append]; simp
theorem Ok.wr (h : Ok t) (x : ByteArray) : Ok (wr t x) := by
  refine ⟨h.u0, h.uc, h.cs, ?_, ?_⟩
  · have := h.se
    have e := wr_size t x
    show t.s ≤ en (lst (_root_.Go.Proofs.Ythkmdonmbdncaaa.wr t x)) t.sh
    unfold lst en at *
    rw [e]; omega
  · rw [kept_wr h, ByteArray.size_append, wN_size]; exact (wN_le t x).2.2.2 h
theorem Ok.cl (h : Ok t) : Ok (cl t) := by
  refine ⟨h.u0, h.uc, h.cs, ?_, h.kk⟩
  have := h.se
  have e := (en_le (lst t) t.sh).2
  show t.s ≤ en (lst t) true
  unfold en at *; simp; omega
theorem Ok.bk (h : Ok t) : Ok (bk t) := ⟨h.u0, Int.le_refl _, by show t.u ≤ t.s; have := h.uc; have := h.cs; omega, h.se, h.kk⟩
theorem Ok.start (h : Ok t) (a : Int) (ha : t.u ≤ a) : 0 < a → lst t - ((kept t).size : Int) ≤ a := by
  intro h0
  rw [kept_size]
  obtain ⟨e0, e1⟩ := en_le (lst t) t.sh
  have := h.uc; have := h.cs; have := h.se; have := h.u0
  unfold lst at *
  omega
theorem py_plen (A : ByteArray) (sh : Bool) (a lim mss : Int) (ha : 0 ≤ a) (hA : a ≤ en ((A.size : Int) + 1) sh) : 0 ≤ plen (py A sh a lim mss) ∧ a + plen (py A sh a lim mss) ≤ en ((A.size : Int) + 1) sh ∧ (py A sh a lim mss).body.size ≤ A.size := by
  obtain ⟨e0, e1⟩ := en_le ((A.size : Int) + 1) sh
  unfold py pz
  split
  · rename_i hg
    obtain ⟨g1, g2⟩ := hg
    split
    · rename_i h0
      refine ⟨by decide, ?_, Nat.zero_le _⟩
      show a + 1 ≤ _
      omega
    · rename_i h0
      have hz : (A.extract (a - 1).toNat (bh ((A.size : Int) + 1) a lim mss - 1).toNat).size = (bh ((A.size : Int) + 1) a lim mss - a).toNat := by
        unfold bh; simp; omega
      have hb0 : a ≤ bh ((A.size : Int) + 1) a lim mss := by unfold bh; omega
      have hb1 : bh ((A.size : Int) + 1) a lim mss ≤ (A.size : Int) + 1 := by unfold bh; omega
      unfold plen
      dsimp only
      rw [hz]
      refine ⟨by split <;> split <;> omega, ?_, by omega⟩
      by_cases hf : (sh && decide (bh ((A.size : Int) + 1) a lim mss = (A.size : Int) + 1) && decide (bh ((A.size : Int) + 1) a lim mss < lim)) = true
      · rw [if_pos hf]
        simp only [Bool.and_eq_true, decide_eq_true_eq] at hf
        have : en ((A.size : Int) + 1) sh = (A.size : Int) + 2 := by unfold en; rw [if_pos hf.1.1]; omega
        simp; omega
      · rw [if_neg hf]; simp; omega
  · refine ⟨by decide, ?_, Nat.zero_le _⟩
    show a + 0 ≤ _
    omega
theorem Ok.nx (h : Ok t) (lim mss : Int) : Ok (nx t lim mss) := by
  have := h.u0; have := h.uc; have := h.cs; have := h.se
  obtain ⟨p0, p1, _⟩ := py_plen t.A t.sh t.c lim mss (by omega) (by unfold lst at *; omega)
  refine ⟨h.u0, ?_, ?_, ?_, h.kk⟩
  · show t.u ≤ nxC t lim mss; unfold nxC nxP; omega
  · show nxC t lim mss ≤ max t.s (nxC t lim mss); omega
  · show max t.s (nxC t lim mss) ≤ en (lst t) t.sh; unfold nxC nxP lst at *; omega
theorem px_py (h : Ok t) (a lim mss : Int) (ha : t.u ≤ a) : px (kept t) (lst t) t.sh a lim mss = py t.A t.sh a lim mss := by
  unfold px py pz
  split
  · rename_i hg
    obtain ⟨g1, g2⟩ := hg
    split
    · rfl
    · rename_i h0
      congr 1
      have hs := h.start a ha (by have := h.u0; omega)
      have hz := kept_size t
      obtain ⟨e0, e1⟩ := en_le (lst t) t.sh
      have := h.u0
      have hb0 : a ≤ bh (lst t) a lim mss := by unfold bh lst at *; omega
      have hb1 : bh (lst t) a lim mss ≤ lst t := by unfold bh lst at *; omega
      generalize bh (lst t) a lim mss = z at *
      unfold lst at *
      apply ext_list
      have hk : ((kept t).size : Int) = (t.A.size : Int) - ((t.u - 1).toNat : Int) := by omega
      rw [extract_list, extract_list, hk]
      unfold kept
      rw [extract_list]
      rw [List.take_of_length_le (i := t.A.size) (by simp), List.drop_take, List.drop_take, List.drop_drop]
      congr 1
      · omega
      · congr 1; omega
  · rfl
theorem kept_ak (h : Ok t) (q : Int) (hq : t.u < q) (hs : q ≤ t.s) (j : Nat) (hj : (j : Int) = min q (lst t) - (lst t - ((kept t).size : Int))) : j ≤ (kept t).size ∧ kept ⟨t.A, t.sh, q, max t.c q, t.s⟩ = (kept t).extract j (kept t).size := by
  have hz := kept_size t
  obtain ⟨e0, e1⟩ := en_le (lst t) t.sh
  have := h.u0; have := h.se
  unfold lst at *
  refine ⟨by omega, ?_⟩
  apply ext_list
  rw [extract_list]
  unfold kept
  dsimp only
  rw [extract_list, extract_list]
  rw [List.take_of_length_le (i := t.A.size) (by simp), List.take_of_length_le (by simp), List.drop_drop]
  by_cases hq2 : q ≤ (t.A.size : Int) + 1
  · congr 1; omega
  · rw [List.drop_eq_nil_of_le (by simp; omega), List.drop_eq_nil_of_le (by simp; omega)]
theorem Ok.ak (h : Ok t) (q : Int) : Ok (ak t q) := by
  unfold _root_.Go.Proofs.Ythkmdonmbdncaaa.ak
  split
  · exact h
  · rename_i hb
    have := h.u0; have := h.uc; have := h.cs; have := h.se
    have hz := kept_size t
    have hz2 := kept_size ⟨t.A, t.sh, q, max t.c q, t.s⟩
    dsimp only at hz2
    have := h.kk
    refine ⟨?_, ?_, ?_, h.se, ?_⟩
    · show 0 ≤ q; omega
    · show q ≤ max t.c q; omega
    · show max t.c q ≤ t.s; omega
    · omega
theorem room_eq (h : Ok t) : (rm (kept t) t.sh : Int) = if t.sh = true then 0 else 2048 - ((t.A.size : Int) - min (t.A.size : Int) (max 0 (t.u - 1))) := by
  have hz := kept_size t
  have := h.kk
  unfold rm
  cases t.sh
  · simp; omega
  · simp
end
end Go.Proofs.Ythkmdonmbdncaaa
