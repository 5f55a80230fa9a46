/-
  The walk of RtoBounds.
-/
import Derived.Test.YthjbhnncobhfoaaRs
import Derived.Test.YthjbhnncobhfoaaOpen
namespace Go.Proofs.Ythjbhnncobhfoaa
open Go.RowKit
set_option linter.unusedVariables false
set_option linter.unusedSimpArgs false

/-- The timer, new since w. -/
structure Tsw (w W : World) (tb : Nat) (t : Tm) : Prop where
  own : TB tb t W
  ok : TOk t
  be : Below w.heap.size w W
  lo : w.heap.size ≤ tb
section
variable {w W W' : World} {tb : Nat} {t t' : Tm}
theorem Tsw.on (h : Tsw w W tb t) (hb : Below W.heap.size W W') : Tsw w W' tb t := ⟨h.own.keep hb, h.ok, h.be.trans (hb.mono h.be.size), h.lo⟩
theorem Tsw.alloc (h : Tsw w W tb t) (o : Obj) : Tsw w (W.alloc o) tb t := h.on ((Below.refl _ _).alloc (Nat.le_refl _) _)
theorem Tsw.to (h : Tsw w W tb t) (ht : TB tb t' W') (ok : TOk t') (hk : Kp [tb] W W') : Tsw w W' tb t' :=
  ⟨ht, ok, h.be.trans (hk.below h.be.size (fun k hm => by have := h.lo; simp at hm; omega)), h.lo⟩
end
set_option maxHeartbeats 400000 in
theorem of_any (cs : List Value) (s : Stp) (m : Int) (w : World) (h : StpCells cs s) (h1 : 1 ≤ m) (hm : m ≤ 1000) :
    Calls Try.prog 9 #[.agg cs.toArray, .int .i64 m] w fun e w' => e = .returned (.int .i64 (s.kind % m)) ∧ Below w.heap.size w w' := by
  have HR : Hid (∀ w', Calls Try.prog 15 #[.int .i64 s.kind, .int .i64 m] w' fun e w'' => e = .returned (.int .i64 (s.kind % m)) ∧ w'' = w') := fun w' => rest_any s.kind m w' h1 (by omega) h.k1 h.k2
  have c0 : (w.alloc (.cells cs.toArray 43)).cell? ⟨w.heap.size, 0, none⟩ = some (.int .i64 s.kind) := by
    rw [Joins.cell_of_block (heap_alloc_new w _) 0, List.getElem?_toArray]; exact h.c0
  have b0 : Below w.heap.size w (w.alloc (.cells cs.toArray 43)) := (Below.refl _ _).alloc (Nat.le_refl _) _
  generalize s.kind % m = r at *
  go_enter Try.func9, Try.ntmps9
  go_wp2_with fail
  refine (HR.out _).mono ?_; rintro e w1 ⟨rfl, rfl⟩
  go_wp2_with fail
  go_ret
  exact ⟨rfl, b0⟩
theorem sample_any (b : Nat) (t : Tm) (r : Int) (w : World) (h : TB b t w) (ok : TOk t) :
    Calls Try.prog 8 #[.pointer (some ⟨b, 0, none⟩), .int .i64 r] w fun e w' => ∃ v t', e = .returned (.int .i64 v) ∧ TB b t' w' ∧ TOk t' ∧ Kp [b] w w' := by
  by_cases hr : r < 0 ∨ 1099511627776 < r
  · refine (sample_bad b r w hr).mono ?_
    rintro e w' ⟨rfl, rfl⟩
    exact ⟨1, t, rfl, h, ok, Kp.refl _ _⟩
  · refine (sample_ok b t r w h ok (by omega)).mono ?_
    rintro e w' ⟨rfl, h1, h2⟩
    exact ⟨0, _, rfl, h1, ok.smp (by omega) (by omega), h2⟩

set_option maxHeartbeats 8000000 in
set_option maxRecDepth 100000 in
theorem bounds_walk (o : Option Addr) (b off len cap : Nat) (C : Nat → List Value) (S : Nat → Stp) (w : World) (hb : 0 < len → o = some ⟨b, off, none⟩ ∧ b < w.heap.size) (hS : StepsAt w b off len C S) (hlen : len ≤ maxLen) :
    Calls Try.prog 4 #[.slice o len cap] w fun e w' => e = .returned (.bool true) ∧ Below w.heap.size w w' := by
  unfold maxLen at hlen
  have HN : Hid (∀ w', Calls Try.prog 6 #[] w' fun e w'' => e = .returned (.pointer (some ⟨w'.heap.size, 0, none⟩)) ∧ TB w'.heap.size tm0 w'' ∧ Below w'.heap.size w' w'') := new_any
  have HV : Hid (∀ tb t w', TB tb t w' → TOk t → Calls Try.prog 13 #[.pointer (some ⟨tb, 0, none⟩)] w' fun e w'' => e = .returned (.int .i64 (val t)) ∧ Below w'.heap.size w' w'') := value_any
  have HL : Hid (∀ tb t w', TB tb t w' → TOk t → Calls Try.prog 11 #[.pointer (some ⟨tb, 0, none⟩)] w' fun e w'' => e = .returned (.tuple #[]) ∧ TB tb (late t) w'' ∧ Kp [tb] w' w'') := late_any
  have HSa : Hid (∀ tb t r w', TB tb t w' → TOk t → Calls Try.prog 8 #[.pointer (some ⟨tb, 0, none⟩), .int .i64 r] w' fun e w'' => ∃ v t', e = .returned (.int .i64 v) ∧ TB tb t' w'' ∧ TOk t' ∧ Kp [tb] w' w'') := sample_any
  have HB0 := Lib.hid hb
  have HS0 := Lib.hid hS
  clear hb hS
  go_enter Try.func4, Try.ntmps4
  go_wp2_with fail
  refine (HN.out _).mono ?_; rintro e w1 ⟨rfl, hT1, hb1⟩
  have L1 : Hid (Tsw w w1 w.heap.size tm0) := ⟨hT1, tm0_ok, hb1, Nat.le_refl _⟩
  clear hT1 hb1
  go_wp2_with fail
  go_loopw [13] (fun i W => ∃ (k : Nat) (t : Tm), k ≤ len ∧ i = .int .i64 k ∧ Tsw w W w.heap.size t) (fun i _ => len - (intOf i).toNat)
  case atStart => exact ⟨0, tm0, Nat.zero_le _, rfl, L1.out⟩
  case round =>
    obtain ⟨k, t, hk, rfl, hO⟩ := hrel
    have L := Lib.hid hO
    clear hO
    have hv := val_lo t
    by_cases hlt : k < len
    · obtain ⟨ho, hbb⟩ := HB0.out (by omega)
      subst ho
      obtain ⟨hr', hcs⟩ := HS0.out k hlt
      have F := Lib.hid (step_f HS0.out hlt hbb L.out.be)
      have HOf : Hid (∀ w', Calls Try.prog 9 #[.agg (C k).toArray, .int .i64 3] w' fun e w'' => e = .returned (.int .i64 ((S k).kind % 3)) ∧ Below w'.heap.size w' w'') := fun w' => of_any (C k) (S k) 3 w' hcs (by omega) (by omega)
      have HC1 : Hid (∀ g W, SB g (C k) W → W.cell? ⟨g, 1, none⟩ = some (.int .i64 (S k).num)) := fun g W h => h.c1 hcs
      have L2 := Lib.hid (L.out.alloc (.cells (C k).toArray 43))
      have B2 := Lib.hid F.out.blk
      have hkd0 := Int.emod_nonneg (S k).kind (show (3 : Int) ≠ 0 by omega)
      have HBn : Hid (wr.heap.size ∉ [w.heap.size]) := fun hm => by
        simp at hm
        have := L.out.own.lt; omega
      clear hcs hr' hbb
      generalize C k = cs at *
      generalize (S k).num = num at *
      generalize (S k).kind % 3 = kd at *
      go_wp2_with (first | (refine wpList_load_mid rfl 43 _ rfl b (off + k * 45) rfl cs _ F.out.rr Try.underlying43 rfl F.out.hi ?_) | (refine wpList_store_last rfl 43 _ _ rfl wr _ cs.toArray rfl rfl rfl F.out.hi' F.out.h45 F.out.one ?_))
      refine (HV.out _ _ _ L2.out.own L2.out.ok).mono ?_; rintro e w3 ⟨rfl, hb3⟩
      have L3 := Lib.hid (L2.out.on hb3)
      have B3 := Lib.hid (B2.out.keep hb3)
      clear L2 B2 hb3
      generalize wr.heap.size = bx at *
      go_wp2_with (refine wpList_load_mid rfl 43 _ rfl bx 0 rfl cs _ B3.out.range Try.underlying43 rfl F.out.hi ?_)
      refine (HOf.out _).mono ?_; rintro e w4 ⟨rfl, hb4⟩
      have L4 := Lib.hid (L3.out.on hb4)
      have B4 := Lib.hid (B3.out.keep hb4)
      have hl := val_late L4.out.ok
      have hv2 := val_lo (late t)
      have ok2 := Lib.hid L4.out.ok.late
      clear L3 B3 hb4 L F HOf
      by_cases hkd : kd = 0
      · subst hkd
        clear HC1 B4
        go_wp2_with fail
        refine (HL.out _ _ _ L4.out.own L4.out.ok).mono ?_; rintro e w5 ⟨rfl, ht, hk5⟩
        have L5 := Lib.hid (L4.out.to ht ok2.out hk5)
        clear L4 ht hk5
        go_wp2_with fail
        refine (HV.out _ _ _ L5.out.own L5.out.ok).mono ?_; rintro e w6 ⟨rfl, hb6⟩
        have L6 := Lib.hid (L5.out.on hb6)
        clear L5 hb6
        have HV2 : Hid (∀ w', TB w.heap.size (late t) w' → Calls Try.prog 13 #[.pointer (some ⟨w.heap.size, 0, none⟩)] w' fun e w'' => e = .returned (.int .i64 (val (late t))) ∧ Below w'.heap.size w' w'') := fun w' h => HV.out _ _ w' h ok2.out
        obtain ⟨hl1, hl2⟩ := hl
        obtain ⟨hv21, hv22⟩ := hv2
        obtain ⟨hv1, hv3⟩ := hv
        generalize val (late t) = V2 at *
        generalize val t = V at *
        go_wp2_with fail
        refine (HV2.out _ L6.out.own).mono ?_; rintro e w7 ⟨rfl, hb7⟩
        have L7 := Lib.hid (L6.out.on hb7)
        clear L6 hb7
        go_wp2_with fail
        refine (HV2.out _ L7.out.own).mono ?_; rintro e w8 ⟨rfl, hb8⟩
        have L8 := Lib.hid (L7.out.on hb8)
        clear L7 hb8
        go_wp2_with fail
        go_roundw
        case rel => exact ⟨k + 1, _, by omega, by go_num, L8.out⟩
        case measure => simp [intOf]; omega
      · have cn := HC1.out _ _ B4.out
        clear HC1
        go_wp2_with fail
        refine (HSa.out _ _ _ _ L4.out.own L4.out.ok).mono ?_; rintro e w5 ⟨rv, t2, rfl, ht, hok, hk5⟩
        have L5 := Lib.hid (L4.out.to ht hok hk5)
        clear L4 ht hk5
        have HV2 : Hid (∀ w', TB w.heap.size t2 w' → Calls Try.prog 13 #[.pointer (some ⟨w.heap.size, 0, none⟩)] w' fun e w'' => e = .returned (.int .i64 (val t2)) ∧ Below w'.heap.size w' w'') := fun w' h => HV.out _ _ w' h hok
        obtain ⟨hv21, hv22⟩ := val_lo t2
        generalize val t2 = V2 at *
        go_wp2_with fail
        refine (HV2.out _ L5.out.own).mono ?_; rintro e w7 ⟨rfl, hb7⟩
        have L7 := Lib.hid (L5.out.on hb7)
        clear L5 hb7
        go_wp2_with fail
        refine (HV2.out _ L7.out.own).mono ?_; rintro e w8 ⟨rfl, hb8⟩
        have L8 := Lib.hid (L7.out.on hb8)
        clear L7 hb8
        go_wp2_with fail
        go_roundw
        case rel => exact ⟨k + 1, _, by omega, by go_num, L8.out⟩
        case measure => simp [intOf]; omega
    · have hlt' : ¬ ((k : Int) < (len : Int)) := by omega
      obtain ⟨hv1, hv2⟩ := hv
      have HV2 : Hid (∀ w', TB w.heap.size t w' → Calls Try.prog 13 #[.pointer (some ⟨w.heap.size, 0, none⟩)] w' fun e w'' => e = .returned (.int .i64 (val t)) ∧ Below w'.heap.size w' w'') := fun w' h => HV.out _ _ w' h L.out.ok
      generalize val t = V at *
      go_wp2_with fail
      refine (HV2.out _ L.out.own).mono ?_; rintro e w7 ⟨rfl, hb7⟩
      have L7 := Lib.hid (L.out.on hb7)
      go_wp2_with fail
      go_ret
      exact ⟨ret_bool (by first | rfl | (simp; done) | (simp; omega)), L7.out.be⟩
end Go.Proofs.Ythjbhnncobhfoaa
