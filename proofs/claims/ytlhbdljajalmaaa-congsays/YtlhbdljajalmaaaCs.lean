/-
  The walk of CongSays: the window and the document's own window over one memory.
-/
import Derived.Test.YtlhbdljajalmaaaAk
import Derived.Test.YtlhbdljajalmaaaRk
import Derived.Test.YtlhbdljajalmaaaOf
import Derived.BigQuiet
namespace Go.Proofs.Ytlhbdljajalmaaa
open Go.RowKit
set_option linter.unusedVariables false
set_option linter.unusedSimpArgs false

/-- Both windows, new since w. -/
structure Two (w W : World) (tb ub : Nat) (t u : Wn) : Prop where
  own : TB tb t W
  doc : RB ub u W
  ok : WOk t
  dok : WOk u
  be : Below w.heap.size w W
  lo : w.heap.size ≤ tb
  ulo : w.heap.size ≤ ub
  ne : tb ≠ ub
section
variable {w W W' : World} {tb ub : Nat} {t t' u : Wn}
theorem Two.on (h : Two w W tb ub t u) (hb : Below W.heap.size W W') : Two w W' tb ub t u := ⟨h.own.keep hb, h.doc.keep hb, h.ok, h.dok, h.be.trans (hb.mono h.be.size), h.lo, h.ulo, h.ne⟩
theorem Two.drew (h : Two w W tb ub t u) : Two w W.drew tb ub t u := h.on ((Below.refl _ _).drew)
theorem Two.alloc (h : Two w W tb ub t u) (o : Obj) : Two w (W.alloc o) tb ub t u := h.on ((Below.refl _ _).alloc (Nat.le_refl _) _)
theorem Two.put (h : Two w W tb ub t u) (ht : TB tb t' W') (ok : WOk t') (hk : Kp [tb] W W') : Two w W' tb ub t' u :=
  ⟨ht, h.doc.kp hk (by simp; exact fun e => h.ne e.symm), ok, h.dok, h.be.trans (hk.below h.be.size (fun k hm => by have := h.lo; simp at hm; omega)), h.lo, h.ulo, h.ne⟩
theorem Two.dput (h : Two w W tb ub t u) (ht : RB ub t' W') (ok : WOk t') (hk : Kp [ub] W W') : Two w W' tb ub t t' :=
  ⟨h.own.kp hk (by simp; exact h.ne), ht, h.ok, ok, h.be.trans (hk.below h.be.size (fun k hm => by have := h.ulo; simp at hm; omega)), h.lo, h.ulo, h.ne⟩
end
theorem below_drewN (W : World) (n : Nat) : Below W.heap.size W (W.drewN n) := ⟨rfl, rfl, rfl, Nat.le_refl _, fun _ _ => rfl⟩
theorem SB.kp {g : Nat} {cs : List Value} {bs : List Nat} {W W' : World} (h : SB g cs W) (hk : Kp bs W W') (hn : g ∉ bs) : SB g cs W' := (hk.block _ h.lt hn).trans h

set_option maxHeartbeats 8000000 in
set_option maxRecDepth 100000 in
theorem says_walk (m : Int) (o : Option Addr) (b off len cap : Nat) (C : Nat → List Value) (S : Nat → Stp) (w : World) (hm : -9223372036854775808 ≤ m ∧ m ≤ 9223372036854775807) (hb : 0 < len → o = some ⟨b, off, none⟩ ∧ b < w.heap.size) (hS : StepsAt w b off len C S) (hlen : len ≤ maxLen) :
    Calls Try.prog 3 #[.int .i64 m, .slice o len cap] w fun e w' => e = .returned (.bool true) ∧ Below w.heap.size w w' := by
  unfold maxLen at hlen
  by_cases hbad : m < 8 ∨ 1000 < m
  · have HN : Hid (∀ w', Calls Try.prog 5 #[.int .i64 m] w' fun e w'' => e = .returned (.tuple #[.pointer none, .int .i64 1]) ∧ w'' = w') := fun w' => new_bad m w' hbad
    have HM : Hid (∀ w', Calls Try.prog 6 #[.int .i64 m] w' fun e w'' => e = .returned (.tuple #[.pointer none, .int .i64 1]) ∧ w'' = w') := fun w' => rnew_bad m w' hbad
    clear hb hS hbad
    go_enter Try.func3, Try.ntmps3
    go_wp2_with fail
    refine (HN.out _).mono ?_; rintro e w1 ⟨rfl, rfl⟩
    go_wp2_with fail
    refine (HM.out _).mono ?_; rintro e w2 ⟨rfl, rfl⟩
    go_wp2_with fail
    go_ret
    exact ⟨rfl, Below.refl _ _⟩
  have m8 : 8 ≤ m := by omega
  have m1000 : m ≤ 1000 := by omega
  have ok0 := Lib.hid (wn0_ok m8 m1000)
  have HN : Hid (∀ w', Calls Try.prog 5 #[.int .i64 m] w' fun e w'' => e = .returned (.tuple #[.pointer (some ⟨w'.heap.size, 0, none⟩), .int .i64 0]) ∧ TB w'.heap.size (wn0 m) w'' ∧ Below w'.heap.size w' w'') := fun w' => new_ok m w' m8 m1000
  have HM : Hid (∀ w', Calls Try.prog 6 #[.int .i64 m] w' fun e w'' => e = .returned (.tuple #[.pointer (some ⟨w'.heap.size, 0, none⟩), .int .i64 0]) ∧ RB w'.heap.size (wn0 m) w'' ∧ Below w'.heap.size w' w'') := fun w' => rnew_ok m w' m8 m1000
  have HZ : Hid (∀ tb t w', TB tb t w' → Calls Try.prog 14 #[.pointer (some ⟨tb, 0, none⟩)] w' fun e w'' => e = .returned (.int .i64 t.size) ∧ w'' = w') := size_any
  have HL : Hid (∀ tb t w', TB tb t w' → Calls Try.prog 15 #[.pointer (some ⟨tb, 0, none⟩)] w' fun e w'' => e = .returned (.int .i64 t.slow) ∧ w'' = w') := slow_any
  have HS0 := Lib.hid hS
  have HB0 := Lib.hid hb
  clear hb hS hbad
  go_enter Try.func3, Try.ntmps3
  go_wp2_with fail
  refine (HN.out _).mono ?_; rintro e w1 ⟨rfl, hT1, hb1⟩
  go_wp2_with fail
  refine (HM.out _).mono ?_; rintro e w2 ⟨rfl, hR2, hb2⟩
  have L2 : Hid (Two w w2 w.heap.size w1.heap.size (wn0 m) (wn0 m)) := ⟨hT1.keep hb2, hR2, ok0.out, ok0.out, hb1.trans (hb2.mono hb1.size), Nat.le_refl _, hb1.size, by have := hT1.lt; omega⟩
  clear hT1 hb1 hR2 hb2
  generalize w1.heap.size = ub at *
  go_wp2_with fail
  go_loopw [37] (fun i W => ∃ (k : Nat) (t : Wn), k ≤ len ∧ i = .int .i64 k ∧ Two w W w.heap.size ub t t) (fun i _ => len - (intOf i).toNat)
  case atStart => exact ⟨0, wn0 m, Nat.zero_le _, rfl, L2.out⟩
  case round =>
    obtain ⟨k, t, hk, rfl, hO⟩ := hrel
    have L := Lib.hid hO
    clear hO
    by_cases hlt : k < len
    · obtain ⟨ho, hbb⟩ := HB0.out (by omega)
      subst ho
      obtain ⟨hr', hcs⟩ := HS0.out k hlt
      have F := Lib.hid (step_f HS0.out hlt hbb L.out.be)
      have HOf : Hid (∀ w', Calls Try.prog 7 #[.agg (C k).toArray, .int .i64 4] w' fun e w'' => e = .returned (.int .i64 ((S k).kind % 4)) ∧ Below w'.heap.size w' w'') := fun w' => of_any (C k) (S k) 4 w' hcs (by omega) (by omega)
      have HC1 : Hid (∀ g W, SB g (C k) W → W.cell? ⟨g, 1, none⟩ = some (.int .i64 (S k).num)) := fun g W h => h.c1 hcs
      have L4 := Lib.hid (L.out.alloc (.cells (C k).toArray 44))
      have B4 := Lib.hid F.out.blk
      have hkd0 := Int.emod_nonneg (S k).kind (show (4 : Int) ≠ 0 by omega)
      have HBn : Hid (wr.heap.size ∉ [w.heap.size]) := fun hm => by
        simp at hm
        have := L.out.own.lt; omega
      have hn1 := hcs.n1
      have hn2 := hcs.n2
      clear hcs hr' hbb L
      generalize C k = cs at *
      generalize (S k).num = num at *
      generalize (S k).kind % 4 = kd at *
      go_wp2_with (first | (refine wpList_load_mid rfl 44 _ rfl b (off + k * 45) rfl cs _ F.out.rr Try.underlying44 rfl F.out.hi ?_) | (refine wpList_store_last rfl 44 _ _ rfl wr _ cs.toArray rfl rfl rfl F.out.hi' F.out.h45 F.out.one ?_) | (refine wpList_load_mid rfl 44 _ rfl wr.heap.size 0 rfl cs _ B4.out.range Try.underlying44 rfl F.out.hi ?_))
      refine (HOf.out _).mono ?_; rintro e w5 ⟨rfl, hb5⟩
      have L5 := Lib.hid (L4.out.on hb5)
      have B5 := Lib.hid (B4.out.keep hb5)
      clear L4 B4 hb5 F HOf
      generalize wr.heap.size = bx at *
      have c5 := HC1.out _ _ B5.out
      by_cases hk0 : kd = 0
      · subst hk0
        have HA : Hid (∀ w', Two w w' w.heap.size ub t t → SB bx cs w' → Calls Try.prog 8 #[.pointer (some ⟨w.heap.size, 0, none⟩), .int .i64 num] w' fun e w'' => e = .returned (.tuple #[]) ∧ Two w w'' w.heap.size ub (lost t num) t ∧ w''.cell? ⟨bx, 1, none⟩ = some (.int .i64 num)) := fun w' h hs => (lost_any _ t num w' h.own h.ok hn1 hn2).mono fun e w'' h' => ⟨h'.1, h.put h'.2.1 (h.ok.lost num) h'.2.2, HC1.out _ _ (hs.kp h'.2.2 HBn.out)⟩
        have HD : Hid (∀ w', Two w w' w.heap.size ub (lost t num) t → Calls Try.prog 9 #[.pointer (some ⟨ub, 0, none⟩), .int .i64 num] w' fun e w'' => e = .returned (.tuple #[]) ∧ Two w w'' w.heap.size ub (lost t num) (lost t num)) := fun w' h => (rlost_any _ t num w' h.doc h.dok hn1 hn2).mono fun e w'' h' => ⟨h'.1, h.dput h'.2.1 (h.dok.lost num) h'.2.2⟩
        go_wp2_with fail
        refine (HA.out _ L5.out B5.out).mono ?_; rintro e w6 ⟨rfl, hL6, c6⟩
        have L6 := Lib.hid hL6
        clear hL6 L5 B5 c5
        go_wp2_with fail
        refine (HD.out _ L6.out).mono ?_; rintro e w7 ⟨rfl, hL7⟩
        have L7 := Lib.hid hL7
        clear hL7 L6 c6 HA HD HC1
        generalize lost t num = t' at *
        have d1 := L7.out.doc.c1
        have d2 := L7.out.doc.c2
        go_wp2_with fail
        go_quiet (first | (go_at_call 14; refine Calls.quiet_of_same (HZ.out _ t' _ ?_); exact L7.out.own) | (go_at_call 15; refine Calls.quiet_of_same (HL.out _ t' _ ?_); exact L7.out.own))
        have L8 := Lib.hid (L7.out.on (below_drewN w7 nq))
        clear L7 d1 d2
        generalize w7.drewN nq = w8 at *
        go_wp2_with fail
        go_roundw
        case rel => exact ⟨k + 1, _, by omega, by go_num, L8.out⟩
        case measure => simp [intOf]; omega
      by_cases hk1 : kd = 1
      · subst hk1
        have HA : Hid (∀ w', Two w w' w.heap.size ub t t → SB bx cs w' → Calls Try.prog 10 #[.pointer (some ⟨w.heap.size, 0, none⟩), .int .i64 num] w' fun e w'' => e = .returned (.tuple #[]) ∧ Two w w'' w.heap.size ub (sil t num) t ∧ w''.cell? ⟨bx, 1, none⟩ = some (.int .i64 num)) := fun w' h hs => (sil_any _ t num w' h.own h.ok hn1 hn2).mono fun e w'' h' => ⟨h'.1, h.put h'.2.1 (h.ok.sil num) h'.2.2, HC1.out _ _ (hs.kp h'.2.2 HBn.out)⟩
        have HD : Hid (∀ w', Two w w' w.heap.size ub (sil t num) t → Calls Try.prog 11 #[.pointer (some ⟨ub, 0, none⟩), .int .i64 num] w' fun e w'' => e = .returned (.tuple #[]) ∧ Two w w'' w.heap.size ub (sil t num) (sil t num)) := fun w' h => (rsil_any _ t num w' h.doc h.dok hn1 hn2).mono fun e w'' h' => ⟨h'.1, h.dput h'.2.1 (h.dok.sil num) h'.2.2⟩
        go_wp2_with fail
        refine (HA.out _ L5.out B5.out).mono ?_; rintro e w6 ⟨rfl, hL6, c6⟩
        have L6 := Lib.hid hL6
        clear hL6 L5 B5 c5
        go_wp2_with fail
        refine (HD.out _ L6.out).mono ?_; rintro e w7 ⟨rfl, hL7⟩
        have L7 := Lib.hid hL7
        clear hL7 L6 c6 HA HD HC1
        generalize sil t num = t' at *
        have d1 := L7.out.doc.c1
        have d2 := L7.out.doc.c2
        go_wp2_with fail
        go_quiet (first | (go_at_call 14; refine Calls.quiet_of_same (HZ.out _ t' _ ?_); exact L7.out.own) | (go_at_call 15; refine Calls.quiet_of_same (HL.out _ t' _ ?_); exact L7.out.own))
        have L8 := Lib.hid (L7.out.on (below_drewN w7 nq))
        clear L7 d1 d2
        generalize w7.drewN nq = w8 at *
        go_wp2_with fail
        go_roundw
        case rel => exact ⟨k + 1, _, by omega, by go_num, L8.out⟩
        case measure => simp [intOf]; omega
      · have hk2 : ¬ kd = 0 := hk0
        have HA : Hid (∀ w', Two w w' w.heap.size ub t t → SB bx cs w' → Calls Try.prog 12 #[.pointer (some ⟨w.heap.size, 0, none⟩), .int .i64 num] w' fun e w'' => e = .returned (.tuple #[]) ∧ Two w w'' w.heap.size ub (ack t num) t ∧ w''.cell? ⟨bx, 1, none⟩ = some (.int .i64 num)) := fun w' h hs => (ack_any _ t num w' h.own h.ok hn1 hn2).mono fun e w'' h' => ⟨h'.1, h.put h'.2.1 (h.ok.ack num) h'.2.2, HC1.out _ _ (hs.kp h'.2.2 HBn.out)⟩
        have HD : Hid (∀ w', Two w w' w.heap.size ub (ack t num) t → Calls Try.prog 13 #[.pointer (some ⟨ub, 0, none⟩), .int .i64 num] w' fun e w'' => e = .returned (.tuple #[]) ∧ Two w w'' w.heap.size ub (ack t num) (ack t num)) := fun w' h => (rack_any _ t num w' h.doc h.dok hn1 hn2).mono fun e w'' h' => ⟨h'.1, h.dput h'.2.1 (h.dok.ack num) h'.2.2⟩
        go_wp2_with fail
        refine (HA.out _ L5.out B5.out).mono ?_; rintro e w6 ⟨rfl, hL6, c6⟩
        have L6 := Lib.hid hL6
        clear hL6 L5 B5 c5
        go_wp2_with fail
        refine (HD.out _ L6.out).mono ?_; rintro e w7 ⟨rfl, hL7⟩
        have L7 := Lib.hid hL7
        clear hL7 L6 c6 HA HD HC1
        generalize ack t num = t' at *
        have d1 := L7.out.doc.c1
        have d2 := L7.out.doc.c2
        go_wp2_with fail
        go_quiet (first | (go_at_call 14; refine Calls.quiet_of_same (HZ.out _ t' _ ?_); exact L7.out.own) | (go_at_call 15; refine Calls.quiet_of_same (HL.out _ t' _ ?_); exact L7.out.own))
        have L8 := Lib.hid (L7.out.on (below_drewN w7 nq))
        clear L7 d1 d2
        generalize w7.drewN nq = w8 at *
        go_wp2_with fail
        go_roundw
        case rel => exact ⟨k + 1, _, by omega, by go_num, L8.out⟩
        case measure => simp [intOf]; omega
    · have hlt' : ¬ ((k : Int) < (len : Int)) := by omega
      have d1 := L.out.doc.c1
      go_wp2_with fail
      go_quiet (first | (go_at_call 14; refine Calls.quiet_of_same (HZ.out _ t _ ?_); exact L.out.own))
      have L8 := Lib.hid (L.out.on (below_drewN wr nq))
      clear L d1
      generalize wr.drewN nq = w8 at *
      go_wp2_with fail
      go_ret
      exact ⟨ret_bool (by first | rfl | (simp; done)), L8.out.be⟩
end Go.Proofs.Ytlhbdljajalmaaa
