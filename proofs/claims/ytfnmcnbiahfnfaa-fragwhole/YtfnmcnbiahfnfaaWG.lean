/-
  The closure of FragWhole by one contract.
-/
import Derived.Test.YtfnmcnbiahfnfaaWA
import Derived.Test.YtfnmcnbiahfnfaaWB
import Derived.Test.YtfnmcnbiahfnfaaWC
import Derived.Test.YtfnmcnbiahfnfaaWD
import Derived.Test.YtfnmcnbiahfnfaaWE
import Derived.Test.YtfnmcnbiahfnfaaWF
namespace Go.Proofs.Ytfnmcnbiahfnfaa
open Go.RowKit Go.Maps
set_option linter.unusedVariables false
set_option linter.unusedSimpArgs false

/-- All that the closure sees: some pieces of either have come. -/
def WX (G : Geo) (p q : Pk) (R1 n1 R2 n2 base : Nat) (W : World) : Prop := ∃ J1 J2 A, AS G p q R1 n1 R2 n2 base (lft n1 J1) (lft n2 J2) (sn n1 J1 J2) J1 J2 W A
theorem fits_pk {p : Pk} {mtu : Int} {R n j : Nat} (f : Fits p) (F : Frm p mtu R n) (hj : j < n) : Fits (pk p R j) :=
  ⟨f.src, f.dst, f.proto, f.ttl, f.id, by have := chk_zero (F.chk hj); omega, by have := chk_zero (F.chk hj); unfold maxLen; omega⟩
theorem clo_any (G : Geo) (p q : Pk) (R1 n1 R2 n2 base : Nat) (mtu : Int) (k : Nat) (W : World) (hk : k < n1 + n2) (h8 : n1 + n2 ≤ 8000)
    (F1 : Frm p mtu R1 n1) (F2 : Frm q mtu R2 n2) (hne : nmOf p ≠ nmOf q) (fp : Fits p) (fq : Fits q) (GO : GeoOk G base) (h : WX G p q R1 n1 R2 n2 base W) :
    Calls Try.prog 20 #[.int .i64 (k : Int), .pointer (some ⟨G.pb, 0, none⟩), .pointer (some ⟨G.ab, 0, none⟩), .pointer (some ⟨G.qb, 0, none⟩), .pointer (some ⟨G.tx, 0, none⟩), .pointer (some ⟨G.al, 0, none⟩), .pointer (some ⟨G.sx, 0, none⟩), .pointer (some ⟨G.lf, 0, none⟩)] W
      fun e W' => e = .returned (.bool true) ∧ WX G p q R1 n1 R2 n2 base W' ∧ Below base W W' := by
  obtain ⟨J1, J2, A, hA⟩ := h
  rcases Nat.lt_or_ge k n1 with h1 | h1
  · by_cases hJ : J1 k = true
    · have hf : ¬ ∀ i, i < n1 → (J1 i || decide (i = k)) = true := fun hc => by
        obtain ⟨i, hi, h0⟩ := hA.ta.h1.lack
        have := hc i hi
        have e := congrFun (same_of hJ) i
        rw [e, h0] at this; cases this
      exact (putA0 G p q R1 n1 R2 n2 base J1 J2 mtu k k W A h1 rfl h8 F1 hne (fits_pk fp F1 h1) GO hJ hf hA).mono fun e W' h => ⟨h.1, by obtain ⟨_, A', h2, _⟩ := h; exact ⟨_, _, A', h2⟩, by obtain ⟨_, A', _, h3⟩ := h; exact h3⟩
    · have hJ : J1 k = false := by simpa using hJ
      by_cases hf : ∀ i, i < n1 → (J1 i || decide (i = k)) = true
      · exact (putC0 G p q R1 n1 R2 n2 base J1 J2 mtu k k W A h1 rfl h8 F1 hne (fits_pk fp F1 h1) GO hJ hf hA).mono fun e W' h => ⟨h.1, by obtain ⟨_, A', h2, _⟩ := h; exact ⟨_, _, A', h2⟩, by obtain ⟨_, A', _, h3⟩ := h; exact h3⟩
      · exact (putB0 G p q R1 n1 R2 n2 base J1 J2 mtu k k W A h1 rfl h8 F1 hne (fits_pk fp F1 h1) GO hJ hf hA).mono fun e W' h => ⟨h.1, by obtain ⟨_, A', h2, _⟩ := h; exact ⟨_, _, A', h2⟩, by obtain ⟨_, A', _, h3⟩ := h; exact h3⟩
  · obtain ⟨j, rfl⟩ : ∃ j, k = n1 + j := ⟨k - n1, by omega⟩
    have hj : j < n2 := by omega
    by_cases hJ : J2 j = true
    · have hf : ¬ ∀ i, i < n2 → (J2 i || decide (i = j)) = true := fun hc => by
        obtain ⟨i, hi, h0⟩ := hA.ta.h2.lack
        have := hc i hi
        have e := congrFun (same_of hJ) i
        rw [e, h0] at this; cases this
      exact (putA1 G p q R1 n1 R2 n2 base J1 J2 mtu j (n1 + j) W A hj rfl h8 F2 hne (fits_pk fq F2 hj) GO hJ hf hA).mono fun e W' h => ⟨h.1, by obtain ⟨_, A', h2, _⟩ := h; exact ⟨_, _, A', h2⟩, by obtain ⟨_, A', _, h3⟩ := h; exact h3⟩
    · have hJ : J2 j = false := by simpa using hJ
      by_cases hf : ∀ i, i < n2 → (J2 i || decide (i = j)) = true
      · exact (putC1 G p q R1 n1 R2 n2 base J1 J2 mtu j (n1 + j) W A hj rfl h8 F2 hne (fits_pk fq F2 hj) GO hJ hf hA).mono fun e W' h => ⟨h.1, by obtain ⟨_, A', h2, _⟩ := h; exact ⟨_, _, A', h2⟩, by obtain ⟨_, A', _, h3⟩ := h; exact h3⟩
      · exact (putB1 G p q R1 n1 R2 n2 base J1 J2 mtu j (n1 + j) W A hj rfl h8 F2 hne (fits_pk fq F2 hj) GO hJ hf hA).mono fun e W' h => ⟨h.1, by obtain ⟨_, A', h2, _⟩ := h; exact ⟨_, _, A', h2⟩, by obtain ⟨_, A', _, h3⟩ := h; exact h3⟩
end Go.Proofs.Ytfnmcnbiahfnfaa
