/-
  The walk of CongBounds.
-/
import Derived.Test.YtlhbdljajalmaaaAk
import Derived.Test.YtlhbdljajalmaaaOf
import Derived.BigQuiet
namespace Go.Proofs.Ytlhbdljajalmaaa
open Go.RowKit
set_option linter.unusedVariables false
set_option linter.unusedSimpArgs false

/-- The window, new since w; its mss is m. -/
structure Tsw (w W : World) (tb : Nat) (m : Int) (t : Wn) : Prop where
  own : TB tb t W
  ok : WOk t
  ms : t.mss = m
  be : Below w.heap.size w W
  lo : w.heap.size ≤ tb
section
variable {w W W' : World} {tb : Nat} {m : Int} {t t' : Wn}
theorem Tsw.on (h : Tsw w W tb m t) (hb : Below W.heap.size W W') : Tsw w W' tb m t := ⟨h.own.keep hb, h.ok, h.ms, h.be.trans (hb.mono h.be.size), h.lo⟩
theorem Tsw.alloc (h : Tsw w W tb m t) (o : Obj) : Tsw w (W.alloc o) tb m t := h.on ((Below.refl _ _).alloc (Nat.le_refl _) _)
theorem Tsw.to (h : Tsw w W tb m t) (ht : TB tb t' W') (ok : WOk t') (hm : t'.mss = t.mss) (hk : Kp [tb] W W') : Tsw w W' tb m t' :=
  ⟨ht, ok, hm.trans h.ms, h.be.trans (hk.below h.be.size (fun k hm => by have := h.lo; simp at hm; omega)), h.lo⟩
end
theorem hv_up {m : Int} (h0 : 8 ≤ m) (h1 : m ≤ 1000) (f : Int) : hv m f ≤ max (2 * m) (f.tdiv 2) := by
  unfold hv
  by_cases h : 0 ≤ f
  · rw [Int.tdiv_eq_ediv_of_nonneg h]; omega
  · have := tdiv_neg2 (f := f) (by omega)
    omega
theorem below_drewN' (W : World) (n : Nat) : Below W.heap.size W (W.drewN n) := ⟨rfl, rfl, rfl, Nat.le_refl _, fun _ _ => rfl⟩
theorem SB.kp' {g : Nat} {cs : List Value} {bs : List Nat} {W W' : World} (h : SB g cs W) (hk : Kp bs W W') (hn : g ∉ bs) : SB g cs W' := (hk.block _ h.lt hn).trans h

set_option maxHeartbeats 8000000 in
set_option maxRecDepth 100000 in
theorem bounds_walk (m : Int) (o : Option Addr) (b off len cap : Nat) (C : Nat → List Value) (S : Nat → Stp) (w : World) (hm : -9223372036854775808 ≤ m ∧ m ≤ 9223372036854775807) (hb : 0 < len → o = some ⟨b, off, none⟩ ∧ b < w.heap.size) (hS : StepsAt w b off len C S) (hlen : len ≤ maxLen) :
    Calls Try.prog 4 #[.int .i64 m, .slice o len cap] w fun e w' => e = .returned (.bool true) ∧ Below w.heap.size w w' := by
  unfold maxLen at hlen
  have HN0 : Hid (∀ w', Calls Try.prog 5 #[.int .i64 0] w' fun e w'' => e = .returned (.tuple #[.pointer none, .int .i64 1]) ∧ w'' = w') := fun w' => new_bad 0 w' (by omega)
  by_cases hbad : m < 8 ∨ 1000 < m
  · have HN : Hid (∀ w', Calls Try.prog 5 #[.int .i64 m] w' fun e w'' => e = .returned (.tuple #[.pointer none, .int .i64 1]) ∧ w'' = w') := fun w' => new_bad m w' hbad
    clear hb hS hbad
    go_enter Try.func4, Try.ntmps4
    go_wp2_with fail
    refine (HN.out _).mono ?_; rintro e w1 ⟨rfl, rfl⟩
    go_wp2_with fail
    refine (HN0.out _).mono ?_; rintro e w2 ⟨rfl, rfl⟩
    go_wp2_with fail
    go_ret
    exact ⟨rfl, Below.refl _ _⟩
  have m8 : 8 ≤ m := by omega
  have m1000 : m ≤ 1000 := by omega
  have ok0 := Lib.hid (wn0_ok m8 m1000)
  have HN : Hid (∀ w', Calls Try.prog 5 #[.int .i64 m] w' fun e w'' => e = .returned (.tuple #[.pointer (some ⟨w'.heap.size, 0, none⟩), .int .i64 0]) ∧ TB w'.heap.size (wn0 m) w'' ∧ Below w'.heap.size w' w'') := fun w' => new_ok m w' m8 m1000
  have HZ : Hid (∀ tb t w', TB tb t w' → Calls Try.prog 14 #[.pointer (some ⟨tb, 0, none⟩)] w' fun e w'' => e = .returned (.int .i64 t.size) ∧ w'' = w') := size_any
  have HL : Hid (∀ tb t w', TB tb t w' → Calls Try.prog 15 #[.pointer (some ⟨tb, 0, none⟩)] w' fun e w'' => e = .returned (.int .i64 t.slow) ∧ w'' = w') := slow_any
  have HS0 := Lib.hid hS
  have HB0 := Lib.hid hb
  clear hb hS hbad
  go_enter Try.func4, Try.ntmps4
  go_wp2_with fail
  refine (HN.out _).mono ?_; rintro e w1 ⟨rfl, hT1, hb1⟩
  have L2 : Hid (Tsw w w1 w.heap.size m (wn0 m)) := ⟨hT1, ok0.out, rfl, hb1, Nat.le_refl _⟩
  clear hT1 hb1
  go_wp2_with fail
  refine (HN0.out _).mono ?_; rintro e w2 ⟨rfl, rfl⟩
  go_wp2_with fail
  go_loopw [37] (fun i W => ∃ (k : Nat) (t : Wn), k ≤ len ∧ i = .int .i64 k ∧ Tsw w W w.heap.size m t) (fun i _ => len - (intOf i).toNat)
  case atStart => exact ⟨0, wn0 m, Nat.zero_le _, rfl, L2.out⟩
  case round =>
    obtain ⟨k, t, hk, rfl, hO⟩ := hrel
    have L := Lib.hid hO
    clear hO
    by_cases hlt : k < len
    · obtain ⟨ho, hbb⟩ := HB0.out (by omega)
      subst ho
      obtain ⟨hr', hcs⟩ := HS0.out k hlt
      have F := Lib.hid (step_f HS0.out hlt hbb L.out.be)
      have HOf : Hid (∀ w', Calls Try.prog 7 #[.agg (C k).toArray, .int .i64 4] w' fun e w'' => e = .returned (.int .i64 ((S k).kind % 4)) ∧ Below w'.heap.size w' w'') := fun w' => of_any (C k) (S k) 4 w' hcs (by omega) (by omega)
      have HC1 : Hid (∀ g W, SB g (C k) W → W.cell? ⟨g, 1, none⟩ = some (.int .i64 (S k).num)) := fun g W h => h.c1 hcs
      have L4 := Lib.hid (L.out.alloc (.cells (C k).toArray 44))
      have B4 := Lib.hid F.out.blk
      have hkd0 := Int.emod_nonneg (S k).kind (show (4 : Int) ≠ 0 by omega)
      have HBn : Hid (wr.heap.size ∉ [w.heap.size]) := fun hm => by
        simp at hm
        have := L.out.own.lt; omega
      have hn1 := hcs.n1
      have hn2 := hcs.n2
      clear hcs hr' hbb L
      generalize C k = cs at *
      generalize (S k).num = num at *
      generalize (S k).kind % 4 = kd at *
      go_wp2_with (first | (refine wpList_load_mid rfl 44 _ rfl b (off + k * 45) rfl cs _ F.out.rr Try.underlying44 rfl F.out.hi ?_) | (refine wpList_store_last rfl 44 _ _ rfl wr _ cs.toArray rfl rfl rfl F.out.hi' F.out.h45 F.out.one ?_))
      refine (HZ.out _ _ _ L4.out.own).mono ?_; rintro e w4 ⟨rfl, rfl⟩
      have B4' := Lib.hid B4.out
      have Fhi := Lib.hid F.out.hi
      generalize wr.heap.size = bx at *
      generalize wr.alloc (.cells cs.toArray 44) = w4 at *
      go_wp2_with (refine wpList_load_mid rfl 44 _ rfl bx 0 rfl cs _ B4.out.range Try.underlying44 rfl Fhi.out ?_)
      refine (HOf.out _).mono ?_; rintro e w5 ⟨rfl, hb5⟩
      have L5 := Lib.hid (L4.out.on hb5)
      have B5 := Lib.hid (B4.out.keep hb5)
      clear L4 B4 B4' hb5 F HOf
      have c5 := HC1.out _ _ B5.out
      have hmm := Lib.hid L5.out.ms
      by_cases hk0 : kd = 0
      · subst hk0
        have HA : Hid (∀ w', Tsw w w' w.heap.size m t → SB bx cs w' → Calls Try.prog 8 #[.pointer (some ⟨w.heap.size, 0, none⟩), .int .i64 num] w' fun e w'' => e = .returned (.tuple #[]) ∧ Tsw w w'' w.heap.size m (lost t num) ∧ w''.cell? ⟨bx, 1, none⟩ = some (.int .i64 num)) := fun w' h hs => (lost_any _ t num w' h.own h.ok hn1 hn2).mono fun e w'' h' => ⟨h'.1, h.to h'.2.1 (h.ok.lost num) rfl h'.2.2, HC1.out _ _ (hs.kp' h'.2.2 HBn.out)⟩
        obtain ⟨v0, v1⟩ := hv_lo m8 m1000 num
        have v2 := hv_up m8 m1000 num
        have HZ7 : Hid (∀ w', TB w.heap.size (lost t num) w' → Calls Try.prog 14 #[.pointer (some ⟨w.heap.size, 0, none⟩)] w' fun e w'' => e = .returned (.int .i64 (hv m num)) ∧ w'' = w') := fun w' h => (HZ.out _ _ w' h).mono fun e w'' h' => ⟨by rw [h'.1]; show _ = Ending.returned (.int .i64 (hv m num)); rw [← hmm.out]; rfl, h'.2⟩
        have HL7 : Hid (∀ w', TB w.heap.size (lost t num) w' → Calls Try.prog 15 #[.pointer (some ⟨w.heap.size, 0, none⟩)] w' fun e w'' => e = .returned (.int .i64 (hv m num)) ∧ w'' = w') := fun w' h => (HL.out _ _ w' h).mono fun e w'' h' => ⟨by rw [h'.1]; show _ = Ending.returned (.int .i64 (hv m num)); rw [← hmm.out]; rfl, h'.2⟩
        go_wp2_with fail
        refine (HA.out _ L5.out B5.out).mono ?_; rintro e w6 ⟨rfl, hL6, c6⟩
        have L6 := Lib.hid hL6
        clear hL6 L5 B5 c5 HA HC1
        generalize lost t num = t' at *
        generalize hv m num = v at *
        have hd1 : decide (v < 2 * m) = false := by simp; omega
        have hd2 : decide (max (2 * m) (num.tdiv 2) < v) = false := by simp; omega
        go_wp2_with fail
        go_quiet (first | (go_at_call 14; refine Calls.quiet_of_same (HZ7.out _ ?_); exact L6.out.own) | (go_at_call 15; refine Calls.quiet_of_same (HL7.out _ ?_); exact L6.out.own))
        have L7 := Lib.hid (L6.out.on (below_drewN' w6 nq))
        clear L6 hd1 hd2 c6 v2
        generalize w6.drewN nq = w7 at *
        have v3 : m ≤ v := by omega
        go_wp2_with fail
        refine (HZ7.out _ L7.out.own).mono ?_; rintro e w8 ⟨rfl, rfl⟩
        go_wp2_with fail
        refine (HZ7.out _ L7.out.own).mono ?_; rintro e w8 ⟨rfl, rfl⟩
        go_wp2_with fail
        refine (HL7.out _ L7.out.own).mono ?_; rintro e w8 ⟨rfl, rfl⟩
        go_wp2_with fail
        refine (HL7.out _ L7.out.own).mono ?_; rintro e w8 ⟨rfl, rfl⟩
        go_wp2_with fail
        go_roundw
        case rel => exact ⟨k + 1, _, by omega, by go_num, L7.out⟩
        case measure => simp [intOf]; omega
      by_cases hk1 : kd = 1
      · subst hk1
        have HA : Hid (∀ w', Tsw w w' w.heap.size m t → Calls Try.prog 10 #[.pointer (some ⟨w.heap.size, 0, none⟩), .int .i64 num] w' fun e w'' => e = .returned (.tuple #[]) ∧ Tsw w w'' w.heap.size m (sil t num)) := fun w' h => (sil_any _ t num w' h.own h.ok hn1 hn2).mono fun e w'' h' => ⟨h'.1, h.to h'.2.1 (h.ok.sil num) rfl h'.2.2⟩
        obtain ⟨v0, v1⟩ := hv_lo m8 m1000 num
        have HZ7 : Hid (∀ w', TB w.heap.size (sil t num) w' → Calls Try.prog 14 #[.pointer (some ⟨w.heap.size, 0, none⟩)] w' fun e w'' => e = .returned (.int .i64 m) ∧ w'' = w') := fun w' h => (HZ.out _ _ w' h).mono fun e w'' h' => ⟨by rw [h'.1]; exact congrArg (fun x => Ending.returned (.int .i64 x)) hmm.out, h'.2⟩
        have HL7 : Hid (∀ w', TB w.heap.size (sil t num) w' → Calls Try.prog 15 #[.pointer (some ⟨w.heap.size, 0, none⟩)] w' fun e w'' => e = .returned (.int .i64 (hv m num)) ∧ w'' = w') := fun w' h => (HL.out _ _ w' h).mono fun e w'' h' => ⟨by rw [h'.1]; show _ = Ending.returned (.int .i64 (hv m num)); rw [← hmm.out]; rfl, h'.2⟩
        clear HC1 B5
        go_wp2_with fail
        refine (HA.out _ L5.out).mono ?_; rintro e w7 ⟨rfl, hL7⟩
        have L7 := Lib.hid hL7
        clear hL7 L5 c5 HA
        generalize sil t num = t' at *
        generalize hv m num = v at *
        go_wp2_with fail
        refine (HZ7.out _ L7.out.own).mono ?_; rintro e w8 ⟨rfl, rfl⟩
        go_wp2_with fail
        refine (HZ7.out _ L7.out.own).mono ?_; rintro e w8 ⟨rfl, rfl⟩
        go_wp2_with fail
        refine (HZ7.out _ L7.out.own).mono ?_; rintro e w8 ⟨rfl, rfl⟩
        go_wp2_with fail
        refine (HL7.out _ L7.out.own).mono ?_; rintro e w8 ⟨rfl, rfl⟩
        go_wp2_with fail
        refine (HL7.out _ L7.out.own).mono ?_; rintro e w8 ⟨rfl, rfl⟩
        go_wp2_with fail
        go_roundw
        case rel => exact ⟨k + 1, _, by omega, by go_num, L7.out⟩
        case measure => simp [intOf]; omega
      · have HA : Hid (∀ w', Tsw w w' w.heap.size m t → SB bx cs w' → Calls Try.prog 12 #[.pointer (some ⟨w.heap.size, 0, none⟩), .int .i64 num] w' fun e w'' => e = .returned (.tuple #[]) ∧ Tsw w w'' w.heap.size m (ack t num) ∧ w''.cell? ⟨bx, 1, none⟩ = some (.int .i64 num)) := fun w' h hs => (ack_any _ t num w' h.own h.ok hn1 hn2).mono fun e w'' h' => ⟨h'.1, h.to h'.2.1 (h.ok.ack num) (ack_mss num) h'.2.2, HC1.out _ _ (hs.kp' h'.2.2 HBn.out)⟩
        have HZ7 : Hid (∀ w', TB w.heap.size (ack t num) w' → Calls Try.prog 14 #[.pointer (some ⟨w.heap.size, 0, none⟩)] w' fun e w'' => e = .returned (.int .i64 (ack t num).size) ∧ w'' = w') := fun w' h => HZ.out _ _ w' h
        have HL7 : Hid (∀ w', TB w.heap.size (ack t num) w' → Calls Try.prog 15 #[.pointer (some ⟨w.heap.size, 0, none⟩)] w' fun e w'' => e = .returned (.int .i64 (ack t num).slow) ∧ w'' = w') := fun w' h => HL.out _ _ w' h
        obtain ⟨a0, a1⟩ := ack_size L5.out.ok num
        rw [hmm.out] at a1
        have ea : Hid (num < 1 → (ack t num).size = t.size) := fun h => by rw [ack_none h]
        have oka := L5.out.ok.ack num
        have ha0 := oka.s0
        rw [ack_mss, hmm.out] at ha0
        have ha1 := oka.s1
        have hb0 := oka.l0
        rw [ack_mss, hmm.out] at hb0
        have hb1 := oka.l1
        clear oka
        go_wp2_with fail
        refine (HA.out _ L5.out B5.out).mono ?_; rintro e w7 ⟨rfl, hL7, c7⟩
        have L7 := Lib.hid hL7
        clear hL7 L5 B5 c5 HA HC1
        generalize (ack t num).size = v at *
        generalize (ack t num).slow = l at *
        generalize ack t num = t' at *
        by_cases hn : num < 1
        · have hv : v = t.size := ea.out hn
          clear ea
          subst hv
          go_wp2_with fail
          refine (HZ7.out _ L7.out.own).mono ?_; rintro e w8 ⟨rfl, rfl⟩
          go_wp2_with fail
          refine (HZ7.out _ L7.out.own).mono ?_; rintro e w8 ⟨rfl, rfl⟩
          go_wp2_with fail
          refine (HZ7.out _ L7.out.own).mono ?_; rintro e w8 ⟨rfl, rfl⟩
          go_wp2_with fail
          refine (HZ7.out _ L7.out.own).mono ?_; rintro e w8 ⟨rfl, rfl⟩
          go_wp2_with fail
          refine (HZ7.out _ L7.out.own).mono ?_; rintro e w8 ⟨rfl, rfl⟩
          go_wp2_with fail
          refine (HL7.out _ L7.out.own).mono ?_; rintro e w8 ⟨rfl, rfl⟩
          go_wp2_with fail
          refine (HL7.out _ L7.out.own).mono ?_; rintro e w8 ⟨rfl, rfl⟩
          go_wp2_with fail
          go_roundw
          case rel => exact ⟨k + 1, _, by omega, by go_num, L7.out⟩
          case measure => simp [intOf]; omega
        · clear ea
          go_wp2_with fail
          refine (HZ7.out _ L7.out.own).mono ?_; rintro e w8 ⟨rfl, rfl⟩
          go_wp2_with fail
          refine (HZ7.out _ L7.out.own).mono ?_; rintro e w8 ⟨rfl, rfl⟩
          go_wp2_with fail
          refine (HZ7.out _ L7.out.own).mono ?_; rintro e w8 ⟨rfl, rfl⟩
          go_wp2_with fail
          refine (HZ7.out _ L7.out.own).mono ?_; rintro e w8 ⟨rfl, rfl⟩
          go_wp2_with fail
          refine (HL7.out _ L7.out.own).mono ?_; rintro e w8 ⟨rfl, rfl⟩
          go_wp2_with fail
          refine (HL7.out _ L7.out.own).mono ?_; rintro e w8 ⟨rfl, rfl⟩
          go_wp2_with fail
          go_roundw
          case rel => exact ⟨k + 1, _, by omega, by go_num, L7.out⟩
          case measure => simp [intOf]; omega
    · have hlt' : ¬ ((k : Int) < (len : Int)) := by omega
      have hs := L.out.ok.s0
      rw [L.out.ms] at hs
      go_wp2_with fail
      refine (HZ.out _ _ _ L.out.own).mono ?_; rintro e w8 ⟨rfl, rfl⟩
      go_wp2_with fail
      go_ret
      exact ⟨ret_bool (by first | rfl | (simp; done) | (simp; omega)), L.out.be⟩
end Go.Proofs.Ytlhbdljajalmaaa
