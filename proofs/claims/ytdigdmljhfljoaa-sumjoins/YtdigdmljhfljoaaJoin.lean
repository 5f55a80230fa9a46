/-
  Plain mathematics: of a text in two pieces the sum is that of the pieces' sums; with its check behind it, it is 65535.
-/
import Derived.Test.YtdigdmljhfljoaaRef
namespace Go.Proofs.Ytdigdmljhfljoaa

theorem hv_other (hi : Bool) (l : List UInt8) : Pm.hv (!hi) l % 65535 = 256 * Pm.hv hi l % 65535 ∧ (Pm.hv hi l = 0 ↔ Pm.hv (!hi) l = 0) := by
  induction l generalizing hi with
  | nil => simp [Pm.hv]
  | cons a r ih =>
    obtain ⟨h1, h2⟩ := ih (!hi)
    cases hi <;> simp [Pm.hv] at h1 h2 ⊢
    · refine ⟨by omega, ?_⟩
      rw [h2]; omega
    · refine ⟨by omega, ?_⟩
      rw [h2]; omega

theorem swp_mod (b : Nat) : swp b % 65535 = 256 * b % 65535 := by unfold swp; omega
theorem swp_zero (b : Nat) : swp b = 0 ↔ b = 0 := by unfold swp; omega
theorem fd_zero_iff (n : Nat) : Pm.fd n = 0 ↔ n = 0 := by unfold Pm.fd; split <;> omega
theorem swp_fd (l : List UInt8) : swp (Pm.fd (Pm.hv true l)) = Pm.fd (Pm.hv false l) := by
  have h0 := Pm.fd_le (Pm.hv true l)
  rw [← Pm.fd_small _ (swp_le _ h0)]
  obtain ⟨h1, h2⟩ := hv_other true l
  simp at h1 h2
  have h3 := Pm.fd_mod (Pm.hv true l)
  apply Pm.fd_eq
  · rw [swp_mod]; omega
  · rw [swp_zero, fd_zero_iff, h2]

theorem join_even_eq (s t : ByteArray) (h : s.size % 2 = 0) : Pm.fd (Pm.hv true (s ++ t).data.toList) = Pm.fd (Pm.fd (Pm.hv true s.data.toList) + Pm.fd (Pm.hv true t.data.toList)) := by
  rw [hv_cat s t h, Pm.fd_add]
theorem join_odd_eq (s t : ByteArray) (h : s.size % 2 = 1) : Pm.fd (Pm.hv true (s ++ t).data.toList) = Pm.fd (Pm.fd (Pm.hv true s.data.toList) + swp (Pm.fd (Pm.hv true t.data.toList))) := by
  have h1 : (s ++ t).data.toList = s.data.toList ++ t.data.toList := by simp
  have h2 : ¬ s.data.toList.length % 2 = 0 := by simp; omega
  rw [swp_fd, Pm.fd_add, h1, Pm.hv_append, if_neg h2]
  rfl
theorem fd_le_self (n : Nat) : Pm.fd n ≤ n := by unfold Pm.fd; split <;> omega
theorem behind_eq (s : ByteArray) (h : s.size % 2 = 0) : Pm.fd (Pm.hv true (s ++ wd (65535 - Pm.fd (Pm.hv true s.data.toList))).data.toList) = 65535 := by
  rw [hv_cat s _ h, hv_wd _ (by omega)]
  have h1 := fd_le_self (Pm.hv true s.data.toList)
  have h2 := Pm.fd_mod (Pm.hv true s.data.toList)
  have h3 := Pm.fd_le (Pm.hv true s.data.toList)
  generalize Pm.hv true s.data.toList = n at *
  have h4 := Pm.fd_eq (n + (65535 - Pm.fd n)) 65535 (by omega) (by omega)
  rw [h4]; rfl
theorem pad_eq (s : ByteArray) : Pm.hv true (s ++ ⟨#[0]⟩).data.toList = Pm.hv true s.data.toList := by
  have h1 : (s ++ ⟨#[0]⟩).data.toList = s.data.toList ++ [0] := by simp
  rw [h1, hv_pad]
theorem cat_comm (A B : ByteArray) (hA : A.size % 2 = 0) (hB : B.size % 2 = 0) : Pm.fd (Pm.hv true (A ++ B).data.toList) = Pm.fd (Pm.hv true (B ++ A).data.toList) := by
  rw [hv_cat A B hA, hv_cat B A hB, Nat.add_comm]
theorem hv_mid (A B : ByteArray) (x : Nat) (hA : A.size % 2 = 0) (hx : x ≤ 65535) : Pm.hv true (A ++ wd x ++ B).data.toList = Pm.hv true A.data.toList + x + Pm.hv true B.data.toList := by
  rw [hv_cat (A ++ wd x) B (by rw [ByteArray.size_append, wd_size]; omega), hv_cat A (wd x) hA, hv_wd x hx]
theorem upd_eq (A B : ByteArray) (x y : Nat) (hA : A.size % 2 = 0) (_hB : B.size % 2 = 0) (hx : x ≤ 65535) (hy : y ≤ 65535) :
    (65535 - Pm.fd (65535 - (65535 - Pm.fd (Pm.hv true (A ++ wd x ++ B).data.toList)) + (65535 - x) + y)) % 65535 = (65535 - Pm.fd (Pm.hv true (A ++ wd y ++ B).data.toList)) % 65535 := by
  rw [hv_mid A B x hA hx, hv_mid A B y hA hy]
  generalize Pm.hv true A.data.toList = a
  generalize Pm.hv true B.data.toList = b
  have h1 := Pm.fd_le (a + x + b)
  have h2 := Pm.fd_mod (a + x + b)
  have h3 := Pm.fd_le (a + y + b)
  have h4 := Pm.fd_mod (a + y + b)
  generalize Pm.fd (a + x + b) = F at *
  have h5 := Pm.fd_le (65535 - (65535 - F) + (65535 - x) + y)
  have h6 := Pm.fd_mod (65535 - (65535 - F) + (65535 - x) + y)
  omega
end Go.Proofs.Ytdigdmljhfljoaa
