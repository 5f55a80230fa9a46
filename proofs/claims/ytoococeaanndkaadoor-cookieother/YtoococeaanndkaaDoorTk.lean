/-
  Some ROUNDS, a number stirred in, the end: package hash.
-/
import Derived.Test.YtoococeaanndkaaDoorRd
namespace Go.Proofs.YtoococeaanndkaaDoor
open Go.RowKit
set_option linter.unusedVariables false
set_option linter.unusedSimpArgs false

theorem below_drewN (w : World) (m : Nat) : Below w.heap.size w (w.drewN m) := ⟨rfl, rfl, rfl, Nat.le_refl _, fun _ _ => rfl⟩
/-- k ROUNDS. -/
def Sp.rnds (s : Sp) : Nat → Sp
  | 0 => s
  | k + 1 => (s.rnds k).rnd
/-- A number stirred in. -/
def Sp.take (s : Sp) (m : Int) : Sp :=
  let t := Sp.rnds { s with d := bits .xor .u64 s.d m } 2
  { t with a := bits .xor .u64 t.a m }
/-- What comes of it. -/
def Sp.fin (s : Sp) : Int :=
  let t := Sp.rnds { s with c := bits .xor .u64 s.c 255 } 4
  bits .xor .u64 (bits .xor .u64 (bits .xor .u64 t.a t.b) t.c) t.d

theorem rnds_any (p : Nat) (s : Sp) (n : Nat) (hn : n ≤ 4) (w : World) (h : SB p s w) :
    Calls Tryd.prog 33 #[.pointer (some ⟨p, 0, none⟩), .int .i64 (n : Int)] w fun e w' => e = .returned (.tuple #[]) ∧ SB p (s.rnds n) w' ∧ Kp [p] w w' := by
  have B0 := Lib.hid h
  have K0 := Lib.hid (Kp.refl [p] w)
  clear h
  go_enter Tryd.func33, Tryd.ntmps33
  go_wp2_with fail
  go_loopw [5] (fun i W => ∃ k : Nat, k ≤ n ∧ i = .int .i64 k ∧ SB p (s.rnds k) W ∧ Kp [p] w W) (fun i _ => n - (intOf i).toNat)
  case atStart => exact ⟨0, Nat.zero_le _, rfl, B0.out, K0.out⟩
  case round =>
    obtain ⟨k, hk, rfl, hB, hK⟩ := hrel
    have B1 := Lib.hid hB
    have K1 := Lib.hid hK
    clear hB hK
    by_cases hlt : k < n
    · go_wp2_with fail
      refine (rnd_any p _ _ B1.out).mono ?_; rintro e w1 ⟨rfl, hB2, hK2⟩
      have B2 := Lib.hid hB2
      have K2 := Lib.hid (K1.out.trans hK2 (by simp))
      clear hB2 hK2
      go_wp2_with fail
      go_roundw
      case rel => exact ⟨k + 1, by omega, by go_num, B2.out, K2.out⟩
      case measure => simp [intOf]; omega
    · have e : k = n := by omega
      subst e
      go_wp2_with fail
      refine bodyPost_end (results_none rfl _ _ _) rfl ?_
      exact ⟨rfl, B1.out, K1.out⟩

set_option maxHeartbeats 1000000 in
theorem take_any (p : Nat) (s : Sp) (m : Int) (w : World) (h : SB p s w) :
    Calls Tryd.prog 27 #[.pointer (some ⟨p, 0, none⟩), .int .u64 m] w fun e w' => e = .returned (.tuple #[]) ∧ SB p (s.take m) w' ∧ Kp [p] w w' := by
  have c3 := h.c3
  have f3 := h.free 3
  have B1 := Lib.hid (h.s3 (bits .xor .u64 s.d m))
  have K1 := Lib.hid ((Kp.refl [p] w).setCell (p := ⟨p, 3, none⟩) (Or.inl (by simp)) (.int .u64 (bits .xor .u64 s.d m)))
  have HT : Hid ({ (Sp.rnds { s with d := bits .xor .u64 s.d m } 2) with a := bits .xor .u64 (Sp.rnds { s with d := bits .xor .u64 s.d m } 2).a m } = s.take m) := rfl
  generalize s.take m = r at *
  clear h
  go_enter Tryd.func27, Tryd.ntmps27
  go_wp2_with fail
  generalize w.setCell ⟨p, 3, none⟩ (.int .u64 (bits .xor .u64 s.d m)) = W1 at *
  refine (rnds_any p _ 2 (by omega) _ B1.out).mono ?_; rintro e w2 ⟨rfl, hB2, hK2⟩
  generalize Sp.rnds { s with d := bits .xor .u64 s.d m } 2 = t at *
  have B2 := Lib.hid hB2
  have K2 := Lib.hid (K1.out.trans hK2 (by simp))
  have x0 := B2.out.c0
  have f0 := B2.out.free 0
  clear hB2 hK2 B1 K1 c3 f3
  go_wp2_with fail
  refine bodyPost_end (results_none rfl _ _ _) rfl ?_
  exact ⟨rfl, by rw [← HT.out]; exact B2.out.s0 _, K2.out.setCell (Or.inl (by simp)) _⟩

set_option maxHeartbeats 1000000 in
theorem end_any (p : Nat) (s : Sp) (w : World) (h : SB p s w) :
    Calls Tryd.prog 29 #[.pointer (some ⟨p, 0, none⟩)] w fun e w' => e = .returned (.int .u64 s.fin) ∧ Kp [p] w w' := by
  have c2 := h.c2
  have f2 := h.free 2
  have B1 := Lib.hid (h.s2 (bits .xor .u64 s.c 255))
  have K1 := Lib.hid ((Kp.refl [p] w).setCell (p := ⟨p, 2, none⟩) (Or.inl (by simp)) (.int .u64 (bits .xor .u64 s.c 255)))
  have HT : Hid (∀ t, t = Sp.rnds { s with c := bits .xor .u64 s.c 255 } 4 → bits .xor .u64 (bits .xor .u64 (bits .xor .u64 t.a t.b) t.c) t.d = s.fin) := by rintro t rfl; rfl
  generalize s.fin = r at *
  clear h
  go_enter Tryd.func29, Tryd.ntmps29
  go_wp2_with fail
  generalize w.setCell ⟨p, 2, none⟩ (.int .u64 (bits .xor .u64 s.c 255)) = W1 at *
  refine (rnds_any p _ 4 (by omega) _ B1.out).mono ?_; rintro e w2 ⟨rfl, hB2, hK2⟩
  have HT2 := Lib.hid (HT.out _ rfl)
  generalize Sp.rnds { s with c := bits .xor .u64 s.c 255 } 4 = t at *
  have B2 := Lib.hid hB2
  have K2 := Lib.hid (K1.out.trans hK2 (by simp))
  have x0 := B2.out.c0
  have x1 := B2.out.c1
  have x2 := B2.out.c2
  have x3 := B2.out.c3
  clear hB2 hK2 B1 K1 c2 f2 HT
  go_wp2_with fail
  go_quiet (fail)
  go_wp2_with fail
  go_ret
  exact ⟨ret_int HT2.out, (K2.out.then (below_drewN w2 nq))⟩
end Go.Proofs.YtoococeaanndkaaDoor
