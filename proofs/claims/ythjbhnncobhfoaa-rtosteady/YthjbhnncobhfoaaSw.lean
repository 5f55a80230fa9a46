/-
  The walk of RtoSteady.
-/
import Derived.Test.YthjbhnncobhfoaaSt
namespace Go.Proofs.Ythjbhnncobhfoaa
open Go.RowKit
set_option linter.unusedVariables false
set_option linter.unusedSimpArgs false

set_option maxHeartbeats 8000000 in
set_option maxRecDepth 100000 in
theorem steady_walk (o : Option Addr) (b off len cap : Nat) (C : Nat → List Value) (S : Nat → Stp) (r0 : Int) (w : World) (hb : 0 < len → o = some ⟨b, off, none⟩ ∧ b < w.heap.size) (hS : StepsAt w b off len C S) (hlen : len ≤ maxLen) (hr0 : -9223372036854775808 ≤ r0 ∧ r0 ≤ 9223372036854775807) :
    Calls Try.prog 5 #[.slice o len cap, .int .i64 r0] w fun e w' => e = .returned (.bool true) ∧ Below w.heap.size w w' := by
  unfold maxLen at hlen
  have HN : Hid (∀ w', Calls Try.prog 6 #[] w' fun e w'' => e = .returned (.pointer (some ⟨w'.heap.size, 0, none⟩)) ∧ TB w'.heap.size tm0 w'' ∧ Below w'.heap.size w' w'') := new_any
  have HV : Hid (∀ tb t w', Tsw w w' tb t → Calls Try.prog 13 #[.pointer (some ⟨tb, 0, none⟩)] w' fun e w'' => e = .returned (.int .i64 (val t)) ∧ Tsw w w'' tb t) := fun tb t w' h => (value_any tb t w' h.own h.ok).mono fun e w'' h' => ⟨h'.1, h.on h'.2⟩
  have HA : Hid (∀ tb t r w', Tsw w w' tb t → 0 ≤ r → r ≤ 100 → Calls Try.prog 8 #[.pointer (some ⟨tb, 0, none⟩), .int .i64 r] w' fun e w'' => e = .returned (.int .i64 0) ∧ Tsw w w'' tb (smp t r)) := fun tb t r w' h h0 h1 => (sample_ok tb t r w' h.own h.ok ⟨h0, by omega⟩).mono fun e w'' h' => ⟨h'.1, h.to h'.2.1 (h.ok.smp h0 (by omega)) h'.2.2⟩
  have HR : Hid (∀ w', Calls Try.prog 15 #[.int .i64 r0, .int .i64 60] w' fun e w'' => e = .returned (.int .i64 (r0 % 60)) ∧ w'' = w') := fun w' => rest_any r0 60 w' (by omega) (by omega) hr0.1 hr0.2
  have hq0 := Int.emod_nonneg r0 (show (60 : Int) ≠ 0 by omega)
  have hq1 := Int.emod_lt_of_pos r0 (show (0 : Int) < 60 by omega)
  have HB0 := Lib.hid hb
  have HS0 := Lib.hid hS
  clear hb hS hr0
  generalize r0 % 60 = q at *
  go_enter Try.func5, Try.ntmps5
  go_wp2_with fail
  refine (HN.out _).mono ?_; rintro e w1 ⟨rfl, hT1, hb1⟩
  have L1 : Hid (Tsw w w1 w.heap.size tm0) := ⟨hT1, tm0_ok, hb1, Nat.le_refl _⟩
  clear hT1 hb1
  go_wp2_with fail
  refine (HR.out _).mono ?_; rintro e w2 ⟨rfl, rfl⟩
  clear HR
  go_wp2_with fail
  go_loopw [17] (fun i W => ∃ (k : Nat) (t : Tm), k ≤ len ∧ i = .int .i64 k ∧ Tsw w W w.heap.size t ∧ Sml t) (fun i _ => len - (intOf i).toNat)
  case atStart => exact ⟨0, tm0, Nat.zero_le _, rfl, L1.out, fun h => by cases h⟩
  case round =>
    obtain ⟨k, t, hk, rfl, hO, hM⟩ := hrel
    have L := Lib.hid hO
    have M := Lib.hid hM
    clear hO hM
    by_cases hlt : k < len
    · obtain ⟨ho, hbb⟩ := HB0.out (by omega)
      subst ho
      obtain ⟨hr', hcs⟩ := HS0.out k hlt
      have F := Lib.hid (step_f HS0.out hlt hbb L.out.be)
      have HX : Hid (∀ w', Calls Try.prog 15 #[.int .i64 (S k).num, .int .i64 100] w' fun e w'' => e = .returned (.int .i64 ((S k).num % 100)) ∧ w'' = w') := fun w' => rest_any (S k).num 100 w' (by omega) (by omega) hcs.n1 hcs.n2
      have hx0 := Int.emod_nonneg (S k).num (show (100 : Int) ≠ 0 by omega)
      have hx1 := Int.emod_lt_of_pos (S k).num (show (0 : Int) < 100 by omega)
      have c1 := F.out.blk.c1 hcs
      have L2 := Lib.hid (L.out.alloc (.cells (C k).toArray 43))
      clear hcs hr' hbb L
      generalize C k = cs at *
      generalize (S k).num % 100 = x at *
      generalize (S k).num = num at *
      go_wp2_with (first | (refine wpList_load_mid rfl 43 _ rfl b (off + k * 45) rfl cs _ F.out.rr Try.underlying43 rfl F.out.hi ?_) | (refine wpList_store_last rfl 43 _ _ rfl wr _ cs.toArray rfl rfl rfl F.out.hi' F.out.h45 F.out.one ?_))
      refine (HX.out _).mono ?_; rintro e w3 ⟨rfl, rfl⟩
      go_wp2_with fail
      refine (HA.out _ _ _ _ L2.out hx0 (by omega)).mono ?_; rintro e w4 ⟨rfl, hL4⟩
      have L4 := Lib.hid hL4
      have M4 := Lib.hid (M.out.next hx0 (show x ≤ 99 by omega))
      clear hL4 L2 c1 F
      go_wp2_with fail
      go_roundw
      case rel => exact ⟨k + 1, _, by omega, by go_num, L4.out, M4.out⟩
      case measure => simp [intOf]; omega
    · have hlt' : ¬ ((k : Int) < (len : Int)) := by omega
      go_wp2_with fail
      go_loopw [27] (fun i W => ∃ (j : Nat) (t : Tm), j ≤ 200 ∧ i = .int .i64 j ∧ Tsw w W w.heap.size t ∧ Inv (1 + q) j t) (fun i _ => 200 - (intOf i).toNat)
      case atStart => exact ⟨0, t, by omega, rfl, L.out, fun _ => M.out, fun j e => by omega⟩
      case round =>
        obtain ⟨j, t2, hj, rfl, hO, hI⟩ := hrel
        have L5 := Lib.hid hO
        have I5 := Lib.hid hI
        clear hO hI
        by_cases hlt2 : j < 200
        · go_wp2_with fail
          refine (HA.out _ _ _ _ L5.out (by omega) (by omega)).mono ?_; rintro e w4 ⟨rfl, hL4⟩
          have L6 := Lib.hid hL4
          have I6 := Lib.hid (I5.out.next (show 1 ≤ 1 + q by omega) (by omega))
          clear hL4
          go_wp2_with fail
          go_roundw
          case rel => exact ⟨j + 1, _, by omega, by go_num, L6.out, I6.out⟩
          case measure => simp [intOf]; omega
        · have hj2 : j = 199 + 1 := by omega
          obtain ⟨v0, v1⟩ := (I5.out.2 199 hj2).end (show 1 ≤ 1 + q by omega) (by omega)
          have hlt2' : ¬ ((j : Int) < 200) := by omega
          have HV2 : Hid (∀ w', Tsw w w' w.heap.size t2 → Calls Try.prog 13 #[.pointer (some ⟨w.heap.size, 0, none⟩)] w' fun e w'' => e = .returned (.int .i64 (val t2)) ∧ Tsw w w'' w.heap.size t2) := fun w' h => HV.out _ _ w' h
          clear hj2
          generalize val t2 = V at *
          go_wp2_with fail
          refine (HV2.out _ L5.out).mono ?_; rintro e w7 ⟨rfl, hL7⟩
          have L7 := Lib.hid hL7
          clear hL7
          go_wp2_with fail
          go_ret
          exact ⟨ret_bool (by first | rfl | (simp; done) | (simp; omega)), L7.out.be⟩
end Go.Proofs.Ythjbhnncobhfoaa
