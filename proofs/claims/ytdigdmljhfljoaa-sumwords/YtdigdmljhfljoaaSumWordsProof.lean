/-
  Whatever two texts and two words are handed in, in which order words stand is of no matter for Sum, and a Check brought up to date is that of the changed text (of sums 0 and 65535 are one); no condition.
-/
import Derived.Test.YtdigdmljhfljoaaRows
import Derived.WalkKit
import Derived.ProofKit
import Derived.OpenShut
import Derived.ShutString
import Derived.SizedLaws
import Derived.Below
import Derived.Test.YtdigdmljhfljoaaJoin
namespace Go.Proofs.Ytdigdmljhfljoaa.sumWords
open Go.ChangeShapes Go.WideShapes Go.ChangeAt Go.RowKit
open Go.ChangeMaps (open_string shut_string)
set_option linter.unusedVariables false

theorem own : ownKnob Try.prog.godebug = none := by kernel_rfl

set_option maxHeartbeats 800000 in
theorem walk (a0 : ByteArray) (a1 : ByteArray) (a2 : Int) (a3 : Int) (w0 : a0.size ≤ 140737488351232) (w1 : a1.size ≤ 140737488351232) (w2 : (Lit.int .u16 a2).wf = true) (w3 : (Lit.int .u16 a3).wf = true) (w : World) :
    Calls Try.prog 7 #[.string a0, .string a1, .int .u16 a2, .int .u16 a3] w fun e w' => e = .returned (.bool true) ∧ Below w.heap.size w w' := by
  obtain ⟨l2, u2⟩ := bounds_u16 w2
  obtain ⟨l3, u3⟩ := bounds_u16 w3
  obtain ⟨x, rfl⟩ := Int.eq_ofNat_of_zero_le l2
  obtain ⟨y, rfl⟩ := Int.eq_ofNat_of_zero_le l3
  have hx : x ≤ 65535 := by omega
  have hy : y ≤ 65535 := by omega
  clear l2 u2 l3 u3 w2 w3
  have x0 : (a0.extract 1 a0.size).size = a0.size - 1 := by simp
  have x1 : (a1.extract 1 a1.size).size = a1.size - 1 := by simp
  by_cases h0 : a0.size % 2 = 0 <;> by_cases h1 : a1.size % 2 = 0
  · have z0 : (((a0.size : Int) % 2) == 1) = false := by simp; omega
    have z1 : (((a1.size : Int) % 2) == 1) = false := by simp; omega
    have hA : a0.size % 2 = 0 := h0
    have sA : a0.size ≤ 140737488351232 := w0
    have hB : a1.size % 2 = 0 := h1
    have sB : a1.size ≤ 140737488351232 := w1
    go_enter Try.func7, Try.ntmps7
    have hAB : (a0 ++ a1).size = a0.size + a1.size := ByteArray.size_append
    have hBA : (a1 ++ a0).size = a1.size + a0.size := ByteArray.size_append
    go_wp2_with fail
    refine (sum_any (a0 ++ a1) _ (by omega)).mono ?_; rintro e w1 ⟨rfl, rfl⟩
    rw [cat_comm a0 a1 hA hB]
    go_wp2_with fail
    refine (sum_any (a1 ++ a0) _ (by omega)).mono ?_; rintro e w1 ⟨rfl, rfl⟩
    go_wp2_with fail
    refine (check_any _ _ (by decide)).mono ?_; rintro e w1 ⟨rfl, rfl⟩
    go_wp2_with fail
    refine (two_any x _ hx).mono ?_; rintro e w2 ⟨rfl, hb2⟩
    have hx1 : (a0 ++ wd x).size = a0.size + 2 := by rw [ByteArray.size_append, wd_size]
    have hx2 : (a0 ++ wd x ++ a1).size = a0.size + 2 + a1.size := by rw [ByteArray.size_append, hx1]
    have hwx := wd_size x
    have hlx := Pm.fd_le (Pm.hv true (a0 ++ wd x ++ a1).data.toList)
    have hly := Pm.fd_le (Pm.hv true (a0 ++ wd y ++ a1).data.toList)
    have hlu := Pm.fd_le (65535 - (65535 - Pm.fd (Pm.hv true (a0 ++ wd x ++ a1).data.toList)) + (65535 - x) + y)
    have HM : Hid ((65535 - Pm.fd (65535 - (65535 - Pm.fd (Pm.hv true (a0 ++ wd x ++ a1).data.toList)) + (65535 - x) + y)) % 65535 = (65535 - Pm.fd (Pm.hv true (a0 ++ wd y ++ a1).data.toList)) % 65535) := upd_eq a0 a1 x y hA hB hx hy
    go_wp2_with fail
    refine (check_any (a0 ++ wd x ++ a1) _ (by omega)).mono ?_; rintro e w3 ⟨rfl, rfl⟩
    have hC : 65535 - Pm.fd (Pm.hv true (a0 ++ wd x ++ a1).data.toList) ≤ 65535 := Nat.sub_le _ _
    generalize 65535 - Pm.fd (Pm.hv true (a0 ++ wd x ++ a1).data.toList) = C at *
    go_wp2_with fail
    refine (update_any C x y _ hC hx hy).mono ?_; rintro e w4 ⟨rfl, rfl⟩
    have hU : 65535 - Pm.fd (65535 - C + (65535 - x) + y) ≤ 65535 := Nat.sub_le _ _
    generalize 65535 - Pm.fd (65535 - C + (65535 - x) + y) = U at *
    go_wp2_with fail
    refine (two_any y _ hy).mono ?_; rintro e w5 ⟨rfl, hb5⟩
    have hy1 : (a0 ++ wd y).size = a0.size + 2 := by rw [ByteArray.size_append, wd_size]
    have hy2 : (a0 ++ wd y ++ a1).size = a0.size + 2 + a1.size := by rw [ByteArray.size_append, hy1]
    have hwy := wd_size y
    go_wp2_with fail
    refine (check_any (a0 ++ wd y ++ a1) _ (by omega)).mono ?_; rintro e w6 ⟨rfl, rfl⟩
    have hZ : 65535 - Pm.fd (Pm.hv true (a0 ++ wd y ++ a1).data.toList) ≤ 65535 := Nat.sub_le _ _
    generalize 65535 - Pm.fd (Pm.hv true (a0 ++ wd y ++ a1).data.toList) = Z at *
    have hM : (((U : Int) % 65535) == ((Z : Int) % 65535)) = true := by
      have := HM.out
      simp; omega
    clear HM
    go_wp2
    go_ret
    exact ⟨rfl, hb2.trans (hb5.mono hb2.size)⟩
  · have z0 : (((a0.size : Int) % 2) == 1) = false := by simp; omega
    have z1 : (((a1.size : Int) % 2) == 1) = true := by simp; omega
    have hA : a0.size % 2 = 0 := h0
    have sA : a0.size ≤ 140737488351232 := w0
    have hB : (a1.extract 1 a1.size).size % 2 = 0 := by omega
    have sB : (a1.extract 1 a1.size).size ≤ 140737488351232 := by omega
    have f1 : ∀ w', (Instr.slice 9 (.string a1) (some (.int .i64 1)) none none).run Try.prog w' = .ok (.string (a1.extract 1 a1.size)) w' := fun w' => run_slice_string_l (P := Try.prog) w' 9 a1 Try.underlying9 .i64 1 (by omega) (by omega)
    generalize a1.extract 1 a1.size = B at *
    go_enter Try.func7, Try.ntmps7
    have hAB : (a0 ++ B).size = a0.size + B.size := ByteArray.size_append
    have hBA : (B ++ a0).size = B.size + a0.size := ByteArray.size_append
    go_wp2_with fail
    refine (sum_any (a0 ++ B) _ (by omega)).mono ?_; rintro e w1 ⟨rfl, rfl⟩
    rw [cat_comm a0 B hA hB]
    go_wp2_with fail
    refine (sum_any (B ++ a0) _ (by omega)).mono ?_; rintro e w1 ⟨rfl, rfl⟩
    go_wp2_with fail
    refine (check_any _ _ (by decide)).mono ?_; rintro e w1 ⟨rfl, rfl⟩
    go_wp2_with fail
    refine (two_any x _ hx).mono ?_; rintro e w2 ⟨rfl, hb2⟩
    have hx1 : (a0 ++ wd x).size = a0.size + 2 := by rw [ByteArray.size_append, wd_size]
    have hx2 : (a0 ++ wd x ++ B).size = a0.size + 2 + B.size := by rw [ByteArray.size_append, hx1]
    have hwx := wd_size x
    have hlx := Pm.fd_le (Pm.hv true (a0 ++ wd x ++ B).data.toList)
    have hly := Pm.fd_le (Pm.hv true (a0 ++ wd y ++ B).data.toList)
    have hlu := Pm.fd_le (65535 - (65535 - Pm.fd (Pm.hv true (a0 ++ wd x ++ B).data.toList)) + (65535 - x) + y)
    have HM : Hid ((65535 - Pm.fd (65535 - (65535 - Pm.fd (Pm.hv true (a0 ++ wd x ++ B).data.toList)) + (65535 - x) + y)) % 65535 = (65535 - Pm.fd (Pm.hv true (a0 ++ wd y ++ B).data.toList)) % 65535) := upd_eq a0 B x y hA hB hx hy
    go_wp2_with fail
    refine (check_any (a0 ++ wd x ++ B) _ (by omega)).mono ?_; rintro e w3 ⟨rfl, rfl⟩
    have hC : 65535 - Pm.fd (Pm.hv true (a0 ++ wd x ++ B).data.toList) ≤ 65535 := Nat.sub_le _ _
    generalize 65535 - Pm.fd (Pm.hv true (a0 ++ wd x ++ B).data.toList) = C at *
    go_wp2_with fail
    refine (update_any C x y _ hC hx hy).mono ?_; rintro e w4 ⟨rfl, rfl⟩
    have hU : 65535 - Pm.fd (65535 - C + (65535 - x) + y) ≤ 65535 := Nat.sub_le _ _
    generalize 65535 - Pm.fd (65535 - C + (65535 - x) + y) = U at *
    go_wp2_with fail
    refine (two_any y _ hy).mono ?_; rintro e w5 ⟨rfl, hb5⟩
    have hy1 : (a0 ++ wd y).size = a0.size + 2 := by rw [ByteArray.size_append, wd_size]
    have hy2 : (a0 ++ wd y ++ B).size = a0.size + 2 + B.size := by rw [ByteArray.size_append, hy1]
    have hwy := wd_size y
    go_wp2_with fail
    refine (check_any (a0 ++ wd y ++ B) _ (by omega)).mono ?_; rintro e w6 ⟨rfl, rfl⟩
    have hZ : 65535 - Pm.fd (Pm.hv true (a0 ++ wd y ++ B).data.toList) ≤ 65535 := Nat.sub_le _ _
    generalize 65535 - Pm.fd (Pm.hv true (a0 ++ wd y ++ B).data.toList) = Z at *
    have hM : (((U : Int) % 65535) == ((Z : Int) % 65535)) = true := by
      have := HM.out
      simp; omega
    clear HM
    go_wp2
    go_ret
    exact ⟨rfl, hb2.trans (hb5.mono hb2.size)⟩
  · have z0 : (((a0.size : Int) % 2) == 1) = true := by simp; omega
    have z1 : (((a1.size : Int) % 2) == 1) = false := by simp; omega
    have hA : (a0.extract 1 a0.size).size % 2 = 0 := by omega
    have sA : (a0.extract 1 a0.size).size ≤ 140737488351232 := by omega
    have f0 : ∀ w', (Instr.slice 9 (.string a0) (some (.int .i64 1)) none none).run Try.prog w' = .ok (.string (a0.extract 1 a0.size)) w' := fun w' => run_slice_string_l (P := Try.prog) w' 9 a0 Try.underlying9 .i64 1 (by omega) (by omega)
    have hB : a1.size % 2 = 0 := h1
    have sB : a1.size ≤ 140737488351232 := w1
    generalize a0.extract 1 a0.size = A at *
    go_enter Try.func7, Try.ntmps7
    have hAB : (A ++ a1).size = A.size + a1.size := ByteArray.size_append
    have hBA : (a1 ++ A).size = a1.size + A.size := ByteArray.size_append
    go_wp2_with fail
    refine (sum_any (A ++ a1) _ (by omega)).mono ?_; rintro e w1 ⟨rfl, rfl⟩
    rw [cat_comm A a1 hA hB]
    go_wp2_with fail
    refine (sum_any (a1 ++ A) _ (by omega)).mono ?_; rintro e w1 ⟨rfl, rfl⟩
    go_wp2_with fail
    refine (check_any _ _ (by decide)).mono ?_; rintro e w1 ⟨rfl, rfl⟩
    go_wp2_with fail
    refine (two_any x _ hx).mono ?_; rintro e w2 ⟨rfl, hb2⟩
    have hx1 : (A ++ wd x).size = A.size + 2 := by rw [ByteArray.size_append, wd_size]
    have hx2 : (A ++ wd x ++ a1).size = A.size + 2 + a1.size := by rw [ByteArray.size_append, hx1]
    have hwx := wd_size x
    have hlx := Pm.fd_le (Pm.hv true (A ++ wd x ++ a1).data.toList)
    have hly := Pm.fd_le (Pm.hv true (A ++ wd y ++ a1).data.toList)
    have hlu := Pm.fd_le (65535 - (65535 - Pm.fd (Pm.hv true (A ++ wd x ++ a1).data.toList)) + (65535 - x) + y)
    have HM : Hid ((65535 - Pm.fd (65535 - (65535 - Pm.fd (Pm.hv true (A ++ wd x ++ a1).data.toList)) + (65535 - x) + y)) % 65535 = (65535 - Pm.fd (Pm.hv true (A ++ wd y ++ a1).data.toList)) % 65535) := upd_eq A a1 x y hA hB hx hy
    go_wp2_with fail
    refine (check_any (A ++ wd x ++ a1) _ (by omega)).mono ?_; rintro e w3 ⟨rfl, rfl⟩
    have hC : 65535 - Pm.fd (Pm.hv true (A ++ wd x ++ a1).data.toList) ≤ 65535 := Nat.sub_le _ _
    generalize 65535 - Pm.fd (Pm.hv true (A ++ wd x ++ a1).data.toList) = C at *
    go_wp2_with fail
    refine (update_any C x y _ hC hx hy).mono ?_; rintro e w4 ⟨rfl, rfl⟩
    have hU : 65535 - Pm.fd (65535 - C + (65535 - x) + y) ≤ 65535 := Nat.sub_le _ _
    generalize 65535 - Pm.fd (65535 - C + (65535 - x) + y) = U at *
    go_wp2_with fail
    refine (two_any y _ hy).mono ?_; rintro e w5 ⟨rfl, hb5⟩
    have hy1 : (A ++ wd y).size = A.size + 2 := by rw [ByteArray.size_append, wd_size]
    have hy2 : (A ++ wd y ++ a1).size = A.size + 2 + a1.size := by rw [ByteArray.size_append, hy1]
    have hwy := wd_size y
    go_wp2_with fail
    refine (check_any (A ++ wd y ++ a1) _ (by omega)).mono ?_; rintro e w6 ⟨rfl, rfl⟩
    have hZ : 65535 - Pm.fd (Pm.hv true (A ++ wd y ++ a1).data.toList) ≤ 65535 := Nat.sub_le _ _
    generalize 65535 - Pm.fd (Pm.hv true (A ++ wd y ++ a1).data.toList) = Z at *
    have hM : (((U : Int) % 65535) == ((Z : Int) % 65535)) = true := by
      have := HM.out
      simp; omega
    clear HM
    go_wp2
    go_ret
    exact ⟨rfl, hb2.trans (hb5.mono hb2.size)⟩
  · have z0 : (((a0.size : Int) % 2) == 1) = true := by simp; omega
    have z1 : (((a1.size : Int) % 2) == 1) = true := by simp; omega
    have hA : (a0.extract 1 a0.size).size % 2 = 0 := by omega
    have sA : (a0.extract 1 a0.size).size ≤ 140737488351232 := by omega
    have f0 : ∀ w', (Instr.slice 9 (.string a0) (some (.int .i64 1)) none none).run Try.prog w' = .ok (.string (a0.extract 1 a0.size)) w' := fun w' => run_slice_string_l (P := Try.prog) w' 9 a0 Try.underlying9 .i64 1 (by omega) (by omega)
    have hB : (a1.extract 1 a1.size).size % 2 = 0 := by omega
    have sB : (a1.extract 1 a1.size).size ≤ 140737488351232 := by omega
    have f1 : ∀ w', (Instr.slice 9 (.string a1) (some (.int .i64 1)) none none).run Try.prog w' = .ok (.string (a1.extract 1 a1.size)) w' := fun w' => run_slice_string_l (P := Try.prog) w' 9 a1 Try.underlying9 .i64 1 (by omega) (by omega)
    generalize a0.extract 1 a0.size = A at *
    generalize a1.extract 1 a1.size = B at *
    go_enter Try.func7, Try.ntmps7
    have hAB : (A ++ B).size = A.size + B.size := ByteArray.size_append
    have hBA : (B ++ A).size = B.size + A.size := ByteArray.size_append
    go_wp2_with fail
    refine (sum_any (A ++ B) _ (by omega)).mono ?_; rintro e w1 ⟨rfl, rfl⟩
    rw [cat_comm A B hA hB]
    go_wp2_with fail
    refine (sum_any (B ++ A) _ (by omega)).mono ?_; rintro e w1 ⟨rfl, rfl⟩
    go_wp2_with fail
    refine (check_any _ _ (by decide)).mono ?_; rintro e w1 ⟨rfl, rfl⟩
    go_wp2_with fail
    refine (two_any x _ hx).mono ?_; rintro e w2 ⟨rfl, hb2⟩
    have hx1 : (A ++ wd x).size = A.size + 2 := by rw [ByteArray.size_append, wd_size]
    have hx2 : (A ++ wd x ++ B).size = A.size + 2 + B.size := by rw [ByteArray.size_append, hx1]
    have hwx := wd_size x
    have hlx := Pm.fd_le (Pm.hv true (A ++ wd x ++ B).data.toList)
    have hly := Pm.fd_le (Pm.hv true (A ++ wd y ++ B).data.toList)
    have hlu := Pm.fd_le (65535 - (65535 - Pm.fd (Pm.hv true (A ++ wd x ++ B).data.toList)) + (65535 - x) + y)
    have HM : Hid ((65535 - Pm.fd (65535 - (65535 - Pm.fd (Pm.hv true (A ++ wd x ++ B).data.toList)) + (65535 - x) + y)) % 65535 = (65535 - Pm.fd (Pm.hv true (A ++ wd y ++ B).data.toList)) % 65535) := upd_eq A B x y hA hB hx hy
    go_wp2_with fail
    refine (check_any (A ++ wd x ++ B) _ (by omega)).mono ?_; rintro e w3 ⟨rfl, rfl⟩
    have hC : 65535 - Pm.fd (Pm.hv true (A ++ wd x ++ B).data.toList) ≤ 65535 := Nat.sub_le _ _
    generalize 65535 - Pm.fd (Pm.hv true (A ++ wd x ++ B).data.toList) = C at *
    go_wp2_with fail
    refine (update_any C x y _ hC hx hy).mono ?_; rintro e w4 ⟨rfl, rfl⟩
    have hU : 65535 - Pm.fd (65535 - C + (65535 - x) + y) ≤ 65535 := Nat.sub_le _ _
    generalize 65535 - Pm.fd (65535 - C + (65535 - x) + y) = U at *
    go_wp2_with fail
    refine (two_any y _ hy).mono ?_; rintro e w5 ⟨rfl, hb5⟩
    have hy1 : (A ++ wd y).size = A.size + 2 := by rw [ByteArray.size_append, wd_size]
    have hy2 : (A ++ wd y ++ B).size = A.size + 2 + B.size := by rw [ByteArray.size_append, hy1]
    have hwy := wd_size y
    go_wp2_with fail
    refine (check_any (A ++ wd y ++ B) _ (by omega)).mono ?_; rintro e w6 ⟨rfl, rfl⟩
    have hZ : 65535 - Pm.fd (Pm.hv true (A ++ wd y ++ B).data.toList) ≤ 65535 := Nat.sub_le _ _
    generalize 65535 - Pm.fd (Pm.hv true (A ++ wd y ++ B).data.toList) = Z at *
    have hM : (((U : Int) % 65535) == ((Z : Int) % 65535)) = true := by
      have := HM.out
      simp; omega
    clear HM
    go_wp2
    go_ret
    exact ⟨rfl, hb2.trans (hb5.mono hb2.size)⟩

set_option maxRecDepth 100000 in
theorem lifted (os : Os) (started : os.Started) (H : Type) (enc : TypeId × Value → H) :
    ReturnsInHanded {} Try.checked os 7 .any (Rows.sumWordsSpec.pre6 enc Try.prog Try.f7 Rows.sumWordsRow.domain false) (Rows.sumWordsSpec.post enc Try.prog Try.f7 false true false false) := by
  refine returnsInHanded_of_change_sized (C := Try.checked) own started (by kernel_rfl) Try.func7
    (ChangeSpec.witness6 (enc := enc) (C := Try.checked) false ⟨#[], #[.string ByteArray.empty, .string ByteArray.empty, .int .u16 0, .int .u16 0], []⟩ 8 (by kernel_rfl) (by kernel_rfl) (by kernel_rfl) (by kernel_rfl)) ?_
  intro W base args ds gs before hval0 hW hcnd hsz0 _
  have hval : ∀ (j : Nat) t v, Try.f7.params[j]? = some t → args[j]? = some v → Value.okWide Try.prog W .any base t v := hval0
  have hW' := hW
  obtain ⟨p, q, hA0, hV, rfl, hfz, hnd⟩ := hW
  have hA : DataW.TrodAll enc Try.prog W 0 (fun _ => true) true Try.f7.params.toList args.toList ds p := hA0
  have hsz : (DataW.weightsEach Try.prog (Try.f7.params.toList ++ Rows.sumWordsSpec.plain.varTypes Try.prog) (ds ++ gs)).all (· ≤ reachBytes) = true := hsz0
  rw [Try.params7] at hA hval hsz
  obtain ⟨v0, vs0, d0, ds0, p0, q0, hargs, rfl, rfl, h0, r0⟩ := trodAll_cons hA
  obtain ⟨v1, vs1, d1, ds1, p1, q1, rfl, rfl, rfl, h1, r1⟩ := trodAll_cons r0
  obtain ⟨v2, vs2, d2, ds2, p2, q2, rfl, rfl, rfl, h2, r2⟩ := trodAll_cons r1
  obtain ⟨v3, vs3, d3, ds3, p3, q3, rfl, rfl, rfl, h3, r3⟩ := trodAll_cons r2
  obtain ⟨rfl, rfl, rfl⟩ := trodAll_nil r3
  obtain rfl : args = #[v0, v1, v2, v3] := by cases args; simp_all
  obtain ⟨rfl, rfl⟩ := trodVars_none hV
  obtain ⟨a0, rfl, rfl, rfl, w0⟩ := open_string Try.underlying9 (hval 0 9 v0 rfl rfl) h0
  have za0 : a0.size ≤ 140737488351232 := by
    have := sized_string hsz (j := 0) (t := 9) rfl rfl
    simpa [reachBytes] using this
  obtain ⟨a1, rfl, rfl, rfl, w1⟩ := open_string Try.underlying9 (hval 1 9 v1 rfl rfl) h1
  have za1 : a1.size ≤ 140737488351232 := by
    have := sized_string hsz (j := 1) (t := 9) rfl rfl
    simpa [reachBytes] using this
  obtain ⟨a2, rfl, rfl, rfl, w2⟩ := open_int Try.underlying27 (hval 2 27 v2 rfl rfl) h2
  obtain ⟨a3, rfl, rfl, rfl, w3⟩ := open_int Try.underlying27 (hval 3 27 v3 rfl rfl) h3
  clear hA0 hval0
  simp only [List.append_nil] at hW'
  refine (walk a0 a1 a2 a3 za0 za1 w2 w3 W).mono fun e W' ⟨he, bel⟩ => ?_
  subst he
  exact ⟨_, rfl, _, _, _, [], [], [], hW', (trodAll_cons_mk (shut_bool Try.underlying4 _) trodAll_mk0), (trodAll_cons_mk (shut_string Try.underlying9 w0) (trodAll_cons_mk (shut_string Try.underlying9 w1) (trodAll_cons_mk (shut_int Try.underlying27 w2) (trodAll_cons_mk (shut_int Try.underlying27 w3) trodAll_mk0)))), rfl, bel.frame _, fun h => by cases h⟩

theorem over : Rows.sumWordsRow.holds Try.pinned (OpenSpec.ofChange Rows.sumWordsSpec) :=
  OpenClaim.holds_of_wide 7 Try.f7 rfl rfl rfl rfl rfl rfl rfl ⟨rfl, rfl, rfl, rfl, rfl⟩ rfl rfl rfl rfl rfl (by kernel_rfl) Try.func7 (by kernel_rfl)
    (of_decide_eq_true (by kernel_rfl)) (by unfold Func.isWrapper; first | (rw [if_pos (by decide +kernel)]; kernel_rfl) | (rw [if_neg (by decide +kernel)]; exact ⟨rfl, rfl⟩))
    (fun os started H enc _ => lifted os started H enc)

end Go.Proofs.Ytdigdmljhfljoaa.sumWords

namespace Go.Proofs.Ytdigdmljhfljoaa
theorem sumWords_holds : Rows.SumWordsSaid := sumWords.over
#print axioms sumWords_holds
end Go.Proofs.Ytdigdmljhfljoaa
