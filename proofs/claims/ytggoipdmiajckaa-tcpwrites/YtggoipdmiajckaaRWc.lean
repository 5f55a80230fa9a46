/-
  Contract of the document's TcpWrite: the same bytes that Write says (parts).
-/
import Derived.Test.YtggoipdmiajckaaRC
import Derived.Test.YtggoipdmiajckaaWr
namespace Go.Proofs.Ytggoipdmiajckaa
open Go.RowKit
set_option linter.unusedVariables false
set_option linter.unusedSimpArgs false

theorem rwrite_bad (g : Sg) (w : World) (h : gchk g ≠ 0) :
    Calls Try.prog 9 #[gv g] w fun e w' => e = .returned (.tuple #[.string ⟨#[]⟩, .int .i64 (gchk g)]) ∧ Below w.heap.size w w' := by
  have HC : Hid (∀ w', Calls Try.prog 11 #[gv g] w' fun e w'' => e = .returned (.int .i64 (gchk g)) ∧ Below w'.heap.size w' w'') := fun w' => rchk_any g w'
  have b0 : Below w.heap.size w (w.alloc (.cells (gc g) 26)) := (Below.refl _ _).alloc (Nat.le_refl _) _
  generalize gchk g = c at *
  have hne : (c != 0) = true := by simpa using h
  go_enter Try.func9, Try.ntmps9
  go_wp2_with fail
  refine (HC.out _).mono ?_; rintro e w1 ⟨rfl, hb1⟩
  go_wp2
  go_ret2
  exact ⟨rfl, b0.trans (hb1.mono (by simp))⟩

theorem one_two (a b : Nat) (hb : b < 256) : one a ++ one b = wd (a * 256 + b) := by
  unfold one wd
  rw [ByteArray.mk_append_mk, show (a * 256 + b) / 256 = a from by omega]
  apply ByteArray.ext
  apply Array.toList_inj.1
  simp only [Array.toList_append, List.cons_append, List.nil_append, List.cons.injEq, and_true, true_and]
  exact ofNat_mod _ _ (by omega)
/-- What the document takes the sum of, 0 left out, adds up to the same. -/
theorem sum_eq (g : Sg) (n : Int) (hn : n = ((ah g ++ wd 0 ++ bh g).size : Int)) : Pm.hv true (psd g.sa g.da 6 n ++ ah g ++ bh g).data.toList = Pm.hv true (cst g.sa g.da (ah g) (bh g)).data.toList := by
  subst hn
  unfold cst
  rw [hv_cat _ _ (by simp only [ByteArray.size_append, psd_sz, ah_sz]), hv_cat _ _ (by rw [psd_sz]), hv_cat _ _ (by rw [psd_sz]), hv_cat _ _ (by simp only [ByteArray.size_append, ah_sz, wd_sz]), hv_cat _ _ (by rw [ah_sz]), hv_wd 0 (by omega)]
  omega
end Go.Proofs.Ytggoipdmiajckaa
