/-
  A datagram as a plain record; contracts of isPort, Check and checkSum (package udp).
-/
import Derived.Test.YtaijmccdlffjhaaCln
namespace Go.Proofs.Ytaijmccdlffjhaa
open Go.RowKit
set_option linter.unusedVariables false
set_option linter.unusedSimpArgs false

structure Gr where
  sa : Nat
  sp : Int
  da : Nat
  dp : Int
  body : ByteArray

/-- The cells of a datagram. -/
abbrev gc (g : Gr) : Array Value := #[.int .u32 (g.sa : Int), .int .i64 g.sp, .int .u32 (g.da : Int), .int .i64 g.dp, .string g.body]
/-- A datagram's value. -/
abbrev gv (g : Gr) : Value := .agg (gc g)
/-- No datagram. -/
def gz : Gr := ⟨0, 0, 0, 0, ⟨#[]⟩⟩
/-- Not from 1 to 65535. -/
abbrev badp (n : Int) : Prop := n < 1 ∨ 65535 < n
/-- What is wrong with a datagram. -/
def gchk (g : Gr) : Int := if badp g.sp ∨ badp g.dp then 1 else if 1000 < g.body.size then 2 else 0

theorem isPort_f (n : Int) (w : World) (h : badp n) :
    Calls Try.prog 18 #[.int .i64 n] w fun e w' => e = .returned (.bool false) ∧ w' = w := by
  unfold badp at h
  by_cases h0 : n < 1
  · have h1 : ¬ 1 ≤ n := by omega
    go_enter Try.func18, Try.ntmps18
    go_wp2
    go_ret
    exact ⟨rfl, rfl⟩
  · have h1 : 1 ≤ n := by omega
    have h2 : ¬ n ≤ 65535 := by omega
    clear h
    go_enter Try.func18, Try.ntmps18
    go_wp2
    go_ret
    exact ⟨rfl, rfl⟩
theorem isPort_t (n : Int) (w : World) (h : ¬ badp n) :
    Calls Try.prog 18 #[.int .i64 n] w fun e w' => e = .returned (.bool true) ∧ w' = w := by
  unfold badp at h
  have h0 : 1 ≤ n := by omega
  have h1 : n ≤ 65535 := by omega
  clear h
  go_enter Try.func18, Try.ntmps18
  go_wp2
  go_ret
  exact ⟨rfl, rfl⟩

theorem gchk_any (g : Gr) (w : World) :
    Calls Try.prog 9 #[gv g] w fun e w' => e = .returned (.int .i64 (gchk g)) ∧ Below w.heap.size w w' := by
  by_cases h0 : badp g.sp
  · have HC : Hid (gchk g = 1) := by show _ = _; unfold gchk; rw [if_pos (Or.inl h0)]
    go_enter Try.func9, Try.ntmps9
    go_wp2_with (go_at_call 18; first | (refine (isPort_f _ _ ?_).mono ?_; assumption; rintro e w' ⟨rfl, rfl⟩) | (refine (isPort_t _ _ ?_).mono ?_; assumption; rintro e w' ⟨rfl, rfl⟩))
    go_ret
    exact ⟨ret_int HC.out.symm, (Below.refl _ _).alloc (Nat.le_refl _) _⟩
  · by_cases h1 : badp g.dp
    · have HC : Hid (gchk g = 1) := by show _ = _; unfold gchk; rw [if_pos (Or.inr h1)]
      go_enter Try.func9, Try.ntmps9
      go_wp2_with (go_at_call 18; first | (refine (isPort_f _ _ ?_).mono ?_; assumption; rintro e w' ⟨rfl, rfl⟩) | (refine (isPort_t _ _ ?_).mono ?_; assumption; rintro e w' ⟨rfl, rfl⟩))
      go_ret
      exact ⟨ret_int HC.out.symm, (Below.refl _ _).alloc (Nat.le_refl _) _⟩
    · have hb : ¬ (badp g.sp ∨ badp g.dp) := fun h => h.elim h0 h1
      by_cases h4 : 1000 < g.body.size
      · have HC : Hid (gchk g = 2) := by show _ = _; unfold gchk; rw [if_neg hb, if_pos h4]
        clear hb
        go_enter Try.func9, Try.ntmps9
        go_wp2_with (go_at_call 18; first | (refine (isPort_f _ _ ?_).mono ?_; assumption; rintro e w' ⟨rfl, rfl⟩) | (refine (isPort_t _ _ ?_).mono ?_; assumption; rintro e w' ⟨rfl, rfl⟩))
        go_ret
        exact ⟨ret_int HC.out.symm, (Below.refl _ _).alloc (Nat.le_refl _) _⟩
      · have HC : Hid (gchk g = 0) := by show _ = _; unfold gchk; rw [if_neg hb, if_neg h4]
        clear hb
        go_enter Try.func9, Try.ntmps9
        go_wp2_with (go_at_call 18; first | (refine (isPort_f _ _ ?_).mono ?_; assumption; rintro e w' ⟨rfl, rfl⟩) | (refine (isPort_t _ _ ?_).mono ?_; assumption; rintro e w' ⟨rfl, rfl⟩))
        go_ret
        exact ⟨ret_int HC.out.symm, (Below.refl _ _).alloc (Nat.le_refl _) _⟩

theorem gchk_ok {g : Gr} (h : gchk g = 0) : 1 ≤ g.sp ∧ g.sp ≤ 65535 ∧ 1 ≤ g.dp ∧ g.dp ≤ 65535 ∧ g.body.size ≤ 1000 := by
  unfold gchk at h
  split at h
  · cases h
  · rename_i hb
    split at h
    · cases h
    · unfold badp at hb; omega

/-- What a check sum is taken of. -/
def cst (src dst : Nat) (f b : ByteArray) : ByteArray := psd src dst 17 ((f ++ wd 0 ++ b).size : Int) ++ (f ++ wd 0 ++ b)
/-- The check sum that belongs between the fields and the body. -/
def cs (src dst : Nat) (f b : ByteArray) : Nat := if 65535 - Pm.fd (Pm.hv true (cst src dst f b).data.toList) = 0 then 65535 else 65535 - Pm.fd (Pm.hv true (cst src dst f b).data.toList)
theorem cs_le (src dst : Nat) (f b : ByteArray) : cs src dst f b ≤ 65535 := by unfold cs; split <;> omega
theorem cs_pos (src dst : Nat) (f b : ByteArray) : 1 ≤ cs src dst f b := by unfold cs; split <;> omega
theorem psd_sz (src dst : Nat) (pr ln : Int) : (psd src dst pr ln).size = 12 := by
  unfold psd; simp only [ByteArray.size_append, w4_sz, wd_sz]

theorem checkSum_any (src dst : Nat) (f b : ByteArray) (w : World) (h1 : src < 4294967296) (h2 : dst < 4294967296) (hf : f.size ≤ 100) (hb : b.size ≤ 100000) :
    Calls Try.prog 16 #[.int .u32 (src : Int), .int .u32 (dst : Int), .string f, .string b] w fun e w' => e = .returned (.int .i64 (cs src dst f b : Int)) ∧ Below w.heap.size w w' := by
  have HZ : Hid (∀ w', Calls Try.prog 15 #[.int .i64 0] w' fun e w'' => e = .returned (.string (wd 0)) ∧ Below w'.heap.size w' w'') := fun w' => utwoN 0 0 rfl (by omega) w'
  have z0 := wd_sz 0
  have zs : (f ++ wd 0 ++ b).size = f.size + 2 + b.size := by simp only [ByteArray.size_append, wd_sz]
  have zp := psd_sz src dst 17 ((f ++ wd 0 ++ b).size : Int)
  have t1 : ∀ w', (Op.stringOp .add f (wd 0)).run Try.prog w' = .ok (.string (f ++ wd 0)) w' := fun w' => run_string_add_sum w' _ _ (by omega)
  have t2 : ∀ w', (Op.stringOp .add (f ++ wd 0) b).run Try.prog w' = .ok (.string (f ++ wd 0 ++ b)) w' := fun w' => run_string_add_sum w' _ _ (by simp only [ByteArray.size_append]; omega)
  have HP : Hid (∀ w', Calls Try.prog 25 #[.int .u32 (src : Int), .int .u32 (dst : Int), .int .i64 17, .int .i64 ((f ++ wd 0 ++ b).size : Int)] w' fun e w'' => e = .returned (.string (psd src dst 17 ((f ++ wd 0 ++ b).size : Int))) ∧ Below w'.heap.size w' w'') := fun w' => pseudo_any src dst 17 _ w' h1 h2 (by omega) (by omega)
  have t3 : ∀ w', (Op.stringOp .add (psd src dst 17 ((f ++ wd 0 ++ b).size : Int)) (f ++ wd 0 ++ b)).run Try.prog w' = .ok (.string (cst src dst f b)) w' := fun w' => run_string_add_sum w' _ _ (by omega)
  have HK : Hid (∀ w', Calls Try.prog 24 #[.string (cst src dst f b)] w' fun e w'' => e = .returned (.int .u16 (65535 - Pm.fd (Pm.hv true (cst src dst f b).data.toList) : Nat)) ∧ w'' = w') := fun w' => check_any _ w' (by unfold cst; rw [ByteArray.size_append]; omega)
  have HC : Hid (cs src dst f b = if 65535 - Pm.fd (Pm.hv true (cst src dst f b).data.toList) = 0 then 65535 else 65535 - Pm.fd (Pm.hv true (cst src dst f b).data.toList)) := rfl
  have hle : 65535 - Pm.fd (Pm.hv true (cst src dst f b).data.toList) ≤ 65535 := by omega
  clear zs zp z0
  generalize 65535 - Pm.fd (Pm.hv true (cst src dst f b).data.toList) = C at *
  generalize cs src dst f b = R at *
  generalize cst src dst f b = T at *
  generalize psd src dst 17 ((f ++ wd 0 ++ b).size : Int) = P at *
  generalize f ++ wd 0 ++ b = A at *
  generalize f ++ wd 0 = A1 at *
  generalize wd 0 = Z at *
  by_cases h0 : C = 0
  · subst h0
    go_enter Try.func16, Try.ntmps16
    go_wp2_with fail
    refine (HZ.out _).mono ?_; rintro e w1 ⟨rfl, hb1⟩
    go_wp2_with fail
    refine (HP.out _).mono ?_; rintro e w2 ⟨rfl, hb2⟩
    have b2 := hb1.trans (hb2.mono hb1.size)
    go_wp2_with fail
    refine (HK.out _).mono ?_; rintro e w3 ⟨rfl, rfl⟩
    go_wp2
    go_ret
    exact ⟨ret_int (by rw [HC.out]; rfl), b2⟩
  · have hz : ((C : Int) == 0) = false := by simp; omega
    go_enter Try.func16, Try.ntmps16
    go_wp2_with fail
    refine (HZ.out _).mono ?_; rintro e w1 ⟨rfl, hb1⟩
    go_wp2_with fail
    refine (HP.out _).mono ?_; rintro e w2 ⟨rfl, hb2⟩
    have b2 := hb1.trans (hb2.mono hb1.size)
    go_wp2_with fail
    refine (HK.out _).mono ?_; rintro e w3 ⟨rfl, rfl⟩
    go_wp2
    go_ret
    exact ⟨ret_int (by rw [HC.out, if_neg h0]), b2⟩
end Go.Proofs.Ytaijmccdlffjhaa
