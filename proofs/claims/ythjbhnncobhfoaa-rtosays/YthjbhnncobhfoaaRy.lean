/-
  The walk of RtoSays: the timer and the document's own timer over one memory.
-/
import Derived.Test.YthjbhnncobhfoaaRb
namespace Go.Proofs.Ythjbhnncobhfoaa
open Go.RowKit
set_option linter.unusedVariables false
set_option linter.unusedSimpArgs false

/-- Both timers, new since w. -/
structure Two (w W : World) (tb ub : Nat) (t u : Tm) : Prop where
  own : TB tb t W
  doc : RB ub u W
  ok : TOk t
  dok : TOk u
  be : Below w.heap.size w W
  lo : w.heap.size ≤ tb
  ulo : w.heap.size ≤ ub
  ne : tb ≠ ub
section
variable {w W W' : World} {tb ub : Nat} {t t' u : Tm}
theorem Two.on (h : Two w W tb ub t u) (hb : Below W.heap.size W W') : Two w W' tb ub t u := ⟨h.own.keep hb, h.doc.keep hb, h.ok, h.dok, h.be.trans (hb.mono h.be.size), h.lo, h.ulo, h.ne⟩
theorem Two.drew (h : Two w W tb ub t u) : Two w W.drew tb ub t u := h.on ((Below.refl _ _).drew)
theorem Two.alloc (h : Two w W tb ub t u) (o : Obj) : Two w (W.alloc o) tb ub t u := h.on ((Below.refl _ _).alloc (Nat.le_refl _) _)
theorem Two.put (h : Two w W tb ub t u) (ht : TB tb t' W') (ok : TOk t') (hk : Kp [tb] W W') : Two w W' tb ub t' u :=
  ⟨ht, h.doc.kp hk (by simp; exact fun e => h.ne e.symm), ok, h.dok, h.be.trans (hk.below h.be.size (fun k hm => by have := h.lo; simp at hm; omega)), h.lo, h.ulo, h.ne⟩
theorem Two.dput (h : Two w W tb ub t u) (ht : RB ub t' W') (ok : TOk t') (hk : Kp [ub] W W') : Two w W' tb ub t t' :=
  ⟨h.own.kp hk (by simp; exact h.ne), ht, h.ok, ok, h.be.trans (hk.below h.be.size (fun k hm => by have := h.ulo; simp at hm; omega)), h.lo, h.ulo, h.ne⟩
end
theorem SB.kp {g : Nat} {cs : List Value} {bs : List Nat} {W W' : World} (h : SB g cs W) (hk : Kp bs W W') (hn : g ∉ bs) : SB g cs W' := (hk.block _ h.lt hn).trans h

set_option maxHeartbeats 8000000 in
set_option maxRecDepth 100000 in
theorem says_walk (o : Option Addr) (b off len cap : Nat) (C : Nat → List Value) (S : Nat → Stp) (w : World) (hb : 0 < len → o = some ⟨b, off, none⟩ ∧ b < w.heap.size) (hS : StepsAt w b off len C S) (hlen : len ≤ maxLen) :
    Calls Try.prog 3 #[.slice o len cap] w fun e w' => e = .returned (.bool true) ∧ Below w.heap.size w w' := by
  unfold maxLen at hlen
  have HN : Hid (∀ w', Calls Try.prog 6 #[] w' fun e w'' => e = .returned (.pointer (some ⟨w'.heap.size, 0, none⟩)) ∧ TB w'.heap.size tm0 w'' ∧ Below w'.heap.size w' w'') := new_any
  have HM : Hid (∀ w', Calls Try.prog 7 #[] w' fun e w'' => e = .returned (.pointer (some ⟨w'.heap.size, 0, none⟩)) ∧ RB w'.heap.size tm0 w'' ∧ Below w'.heap.size w' w'') := rnew_any
  have HS1 : Hid (∀ tb w', Calls Try.prog 8 #[.pointer (some ⟨tb, 0, none⟩), .int .i64 (-1)] w' fun e w'' => e = .returned (.int .i64 1) ∧ w'' = w') := fun tb w' => sample_bad tb (-1) w' (by omega)
  have HV : Hid (∀ tb ub t u w', Two w w' tb ub t u → Calls Try.prog 13 #[.pointer (some ⟨tb, 0, none⟩)] w' fun e w'' => e = .returned (.int .i64 (val t)) ∧ Two w w'' tb ub t u) := fun tb ub t u w' h => (value_any tb t w' h.own h.ok).mono fun e w'' h' => ⟨h'.1, h.on h'.2⟩
  have HW : Hid (∀ tb ub t u w', Two w w' tb ub t u → Calls Try.prog 14 #[.pointer (some ⟨ub, 0, none⟩)] w' fun e w'' => e = .returned (.int .i64 (val u)) ∧ Two w w'' tb ub t u) := fun tb ub t u w' h => (rvalue_any ub u w' h.doc h.dok).mono fun e w'' h' => ⟨h'.1, h.on h'.2⟩
  have HL : Hid (∀ tb ub t u w', Two w w' tb ub t u → Calls Try.prog 11 #[.pointer (some ⟨tb, 0, none⟩)] w' fun e w'' => e = .returned (.tuple #[]) ∧ Two w w'' tb ub (late t) u) := fun tb ub t u w' h => (late_any tb t w' h.own h.ok).mono fun e w'' h' => ⟨h'.1, h.put h'.2.1 h.ok.late h'.2.2⟩
  have HK : Hid (∀ tb ub t u w', Two w w' tb ub t u → Calls Try.prog 12 #[.pointer (some ⟨ub, 0, none⟩)] w' fun e w'' => e = .returned (.tuple #[]) ∧ Two w w'' tb ub t (late u)) := fun tb ub t u w' h => (rlate_any ub u w' h.doc h.dok).mono fun e w'' h' => ⟨h'.1, h.dput h'.2.1 h.dok.late h'.2.2⟩
  have HS0 := Lib.hid hS
  have HB0 := Lib.hid hb
  clear hb hS
  go_enter Try.func3, Try.ntmps3
  go_wp2_with fail
  refine (HN.out _).mono ?_; rintro e w1 ⟨rfl, hT1, hb1⟩
  go_wp2_with fail
  refine (HM.out _).mono ?_; rintro e w2 ⟨rfl, hR2, hb2⟩
  have L2 : Hid (Two w w2 w.heap.size w1.heap.size tm0 tm0) := ⟨hT1.keep hb2, hR2, tm0_ok, tm0_ok, hb1.trans (hb2.mono hb1.size), Nat.le_refl _, hb1.size, by have := hT1.lt; omega⟩
  clear hT1 hb1 hR2 hb2
  generalize w1.heap.size = ub at *
  go_wp2_with fail
  refine (HS1.out _ _).mono ?_; rintro e w3 ⟨rfl, rfl⟩
  go_wp2_with fail
  go_loopw [18] (fun i W => ∃ (k : Nat) (t : Tm), k ≤ len ∧ i = .int .i64 k ∧ Two w W w.heap.size ub t t) (fun i _ => len - (intOf i).toNat)
  case atStart => exact ⟨0, tm0, Nat.zero_le _, rfl, L2.out⟩
  case round =>
    obtain ⟨k, t, hk, rfl, hO⟩ := hrel
    have L := Lib.hid hO
    clear hO
    by_cases hlt : k < len
    · obtain ⟨ho, hbb⟩ := HB0.out (by omega)
      subst ho
      obtain ⟨hr', hcs⟩ := HS0.out k hlt
      have F := Lib.hid (step_f HS0.out hlt hbb L.out.be)
      have HOf : Hid (∀ w', Calls Try.prog 9 #[.agg (C k).toArray, .int .i64 3] w' fun e w'' => e = .returned (.int .i64 ((S k).kind % 3)) ∧ Below w'.heap.size w' w'') := fun w' => of_any (C k) (S k) 3 w' hcs (by omega) (by omega)
      have HC1 : Hid (∀ g W, SB g (C k) W → W.cell? ⟨g, 1, none⟩ = some (.int .i64 (S k).num)) := fun g W h => h.c1 hcs
      have L4 := Lib.hid (L.out.alloc (.cells (C k).toArray 43))
      have B4 := Lib.hid F.out.blk
      have hkd0 := Int.emod_nonneg (S k).kind (show (3 : Int) ≠ 0 by omega)
      have HBn : Hid (wr.heap.size ∉ [w.heap.size]) := fun hm => by
        simp at hm
        have := L.out.own.lt; omega
      have hn1 := hcs.n1
      have hn2 := hcs.n2
      clear hcs hr' hbb L
      generalize C k = cs at *
      generalize (S k).num = num at *
      generalize (S k).kind % 3 = kd at *
      go_wp2_with (first | (refine wpList_load_mid rfl 43 _ rfl b (off + k * 45) rfl cs _ F.out.rr Try.underlying43 rfl F.out.hi ?_) | (refine wpList_store_last rfl 43 _ _ rfl wr _ cs.toArray rfl rfl rfl F.out.hi' F.out.h45 F.out.one ?_) | (refine wpList_load_mid rfl 43 _ rfl wr.heap.size 0 rfl cs _ B4.out.range Try.underlying43 rfl F.out.hi ?_))
      refine (HOf.out _).mono ?_; rintro e w5 ⟨rfl, hb5⟩
      have L5 := Lib.hid (L4.out.on hb5)
      have B5 := Lib.hid (B4.out.keep hb5)
      clear L4 B4 hb5 F HOf
      generalize wr.heap.size = bx at *
      by_cases hkd : 0 < kd
      · by_cases hr : num < 0 ∨ 1099511627776 < num
        · have HA : Hid (∀ w', Calls Try.prog 8 #[.pointer (some ⟨w.heap.size, 0, none⟩), .int .i64 num] w' fun e w'' => e = .returned (.int .i64 1) ∧ w'' = w') := fun w' => sample_bad _ num w' hr
          have HD : Hid (∀ w', Calls Try.prog 10 #[.pointer (some ⟨ub, 0, none⟩), .int .i64 num] w' fun e w'' => e = .returned (.int .i64 1) ∧ w'' = w') := fun w' => rsample_bad _ num w' hr
          have c5 := HC1.out _ _ B5.out
          have L5d := Lib.hid L5.out.drew
          clear hr
          go_wp2_with fail
          go_region_with (first | (go_at_call 8; refine (HA.out _).mono ?_; rintro e w6 ⟨rfl, rfl⟩) | (go_at_call 10; refine (HD.out _).mono ?_; rintro e w7 ⟨rfl, rfl⟩))
          all_goals (
            have L7 := Lib.hid L5d.out
            have HV7 : Hid (∀ w', Two w w' w.heap.size ub t t → Calls Try.prog 13 #[.pointer (some ⟨w.heap.size, 0, none⟩)] w' fun e w'' => e = .returned (.int .i64 (val t)) ∧ Two w w'' w.heap.size ub t t) := fun w' h => HV.out _ _ _ _ w' h
            have HW7 : Hid (∀ w', Two w w' w.heap.size ub t t → Calls Try.prog 14 #[.pointer (some ⟨ub, 0, none⟩)] w' fun e w'' => e = .returned (.int .i64 (val t)) ∧ Two w w'' w.heap.size ub t t) := fun w' h => HW.out _ _ _ _ w' h
            generalize val t = V at *
            go_wp2_with fail
            refine (HV7.out _ L7.out).mono ?_; rintro e w8 ⟨rfl, hL8⟩
            have L8 := Lib.hid hL8
            clear hL8
            go_wp2_with fail
            refine (HW7.out _ L8.out).mono ?_; rintro e w9 ⟨rfl, hL9⟩
            have L9 := Lib.hid hL9
            clear hL9
            go_wp2_with fail
            go_roundw
            case rel => exact ⟨k + 1, _, by omega, by go_num, L9.out⟩
            case measure => simp [intOf]; omega)
        · have hr1 : 0 ≤ num := by omega
          have hr2 : num ≤ 1099511627776 := by omega
          have HA : Hid (∀ w', Two w w' w.heap.size ub t t → SB bx cs w' → Calls Try.prog 8 #[.pointer (some ⟨w.heap.size, 0, none⟩), .int .i64 num] w' fun e w'' => e = .returned (.int .i64 0) ∧ Two w w'' w.heap.size ub (smp t num) t ∧ w''.cell? ⟨bx, 1, none⟩ = some (.int .i64 num)) := fun w' h hs => (sample_ok _ t num w' h.own h.ok ⟨hr1, hr2⟩).mono fun e w'' h' => ⟨h'.1, h.put h'.2.1 (h.ok.smp hr1 hr2) h'.2.2, HC1.out _ _ (hs.kp h'.2.2 HBn.out)⟩
          have HD : Hid (∀ w', Two w w' w.heap.size ub (smp t num) t → Calls Try.prog 10 #[.pointer (some ⟨ub, 0, none⟩), .int .i64 num] w' fun e w'' => e = .returned (.int .i64 0) ∧ Two w w'' w.heap.size ub (smp t num) (smp t num)) := fun w' h => (rsample_ok _ t num w' h.doc h.dok ⟨hr1, hr2⟩).mono fun e w'' h' => ⟨h'.1, h.dput h'.2.1 (h.dok.smp hr1 hr2) h'.2.2⟩
          have c5 := HC1.out _ _ B5.out
          have L5d := Lib.hid L5.out.drew
          have B5d : Hid (SB bx cs w5.drew) := B5.out
          clear hr
          go_wp2_with fail
          go_region_with (first | (go_at_call 8; refine (HA.out _ ?_ ?_).mono ?_; exact L5d.out; exact B5d.out; rintro e w6 ⟨rfl, hL6, c6⟩) | (go_at_call 10; refine (HD.out _ ?_).mono ?_; exact hL6; rintro e w7 ⟨rfl, hL7⟩))
          all_goals (
            have L7 := Lib.hid hL7
            have HV7 : Hid (∀ w', Two w w' w.heap.size ub (smp t num) (smp t num) → Calls Try.prog 13 #[.pointer (some ⟨w.heap.size, 0, none⟩)] w' fun e w'' => e = .returned (.int .i64 (val (smp t num))) ∧ Two w w'' w.heap.size ub (smp t num) (smp t num)) := fun w' h => HV.out _ _ _ _ w' h
            have HW7 : Hid (∀ w', Two w w' w.heap.size ub (smp t num) (smp t num) → Calls Try.prog 14 #[.pointer (some ⟨ub, 0, none⟩)] w' fun e w'' => e = .returned (.int .i64 (val (smp t num))) ∧ Two w w'' w.heap.size ub (smp t num) (smp t num)) := fun w' h => HW.out _ _ _ _ w' h
            generalize val (smp t num) = V at *
            go_wp2_with fail
            refine (HV7.out _ L7.out).mono ?_; rintro e w8 ⟨rfl, hL8⟩
            have L8 := Lib.hid hL8
            clear hL8
            go_wp2_with fail
            refine (HW7.out _ L8.out).mono ?_; rintro e w9 ⟨rfl, hL9⟩
            have L9 := Lib.hid hL9
            clear hL9
            go_wp2_with fail
            go_roundw
            case rel => exact ⟨k + 1, _, by omega, by go_num, L9.out⟩
            case measure => simp [intOf]; omega)
      · have hkd' : kd = 0 := by omega
        subst hkd'
        clear HC1 B5
        go_wp2_with fail
        refine (HL.out _ _ _ _ _ L5.out).mono ?_; rintro e w6 ⟨rfl, hL6⟩
        have L6 := Lib.hid hL6
        clear hL6 L5
        go_wp2_with fail
        refine (HK.out _ _ _ _ _ L6.out).mono ?_; rintro e w7 ⟨rfl, hL7⟩
        have L7 := Lib.hid hL7
        have HV7 : Hid (∀ w', Two w w' w.heap.size ub (late t) (late t) → Calls Try.prog 13 #[.pointer (some ⟨w.heap.size, 0, none⟩)] w' fun e w'' => e = .returned (.int .i64 (val (late t))) ∧ Two w w'' w.heap.size ub (late t) (late t)) := fun w' h => HV.out _ _ _ _ w' h
        have HW7 : Hid (∀ w', Two w w' w.heap.size ub (late t) (late t) → Calls Try.prog 14 #[.pointer (some ⟨ub, 0, none⟩)] w' fun e w'' => e = .returned (.int .i64 (val (late t))) ∧ Two w w'' w.heap.size ub (late t) (late t)) := fun w' h => HW.out _ _ _ _ w' h
        generalize val (late t) = V at *
        go_wp2_with fail
        refine (HV7.out _ L7.out).mono ?_; rintro e w8 ⟨rfl, hL8⟩
        have L8 := Lib.hid hL8
        clear hL8
        go_wp2_with fail
        refine (HW7.out _ L8.out).mono ?_; rintro e w9 ⟨rfl, hL9⟩
        have L9 := Lib.hid hL9
        clear hL9
        go_wp2_with fail
        go_roundw
        case rel => exact ⟨k + 1, _, by omega, by go_num, L9.out⟩
        case measure => simp [intOf]; omega
    · have hlt' : ¬ ((k : Int) < (len : Int)) := by omega
      have HV7 : Hid (∀ w', Two w w' w.heap.size ub t t → Calls Try.prog 13 #[.pointer (some ⟨w.heap.size, 0, none⟩)] w' fun e w'' => e = .returned (.int .i64 (val t)) ∧ Two w w'' w.heap.size ub t t) := fun w' h => HV.out _ _ _ _ w' h
      have HW7 : Hid (∀ w', Two w w' w.heap.size ub t t → Calls Try.prog 14 #[.pointer (some ⟨ub, 0, none⟩)] w' fun e w'' => e = .returned (.int .i64 (val t)) ∧ Two w w'' w.heap.size ub t t) := fun w' h => HW.out _ _ _ _ w' h
      generalize val t = V at *
      go_wp2_with fail
      refine (HV7.out _ L.out).mono ?_; rintro e w8 ⟨rfl, hL8⟩
      have L8 := Lib.hid hL8
      clear hL8
      go_wp2_with fail
      refine (HW7.out _ L8.out).mono ?_; rintro e w9 ⟨rfl, hL9⟩
      have L9 := Lib.hid hL9
      clear hL9
      go_wp2_with fail
      go_ret
      exact ⟨ret_bool (by first | rfl | (simp; done) | (simp; omega)), L9.out.be⟩
end Go.Proofs.Ythjbhnncobhfoaa
