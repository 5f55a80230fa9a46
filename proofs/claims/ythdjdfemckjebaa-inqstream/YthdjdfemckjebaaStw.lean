/-
  The walk of InqStream.
-/
import Derived.Test.YthdjdfemckjebaaCl
namespace Go.Proofs.Ythdjdfemckjebaa
open Go.RowKit
set_option linter.unusedVariables false
set_option linter.unusedSimpArgs false

theorem extract_nil (X : ByteArray) : X.extract 0 0 = ⟨#[]⟩ := by
  have e : (X.extract 0 0).data.toList = [] := by rw [extract_list']; rfl
  cases hA : X.extract 0 0
  rw [hA] at e
  congr 1
  exact Array.toList_inj.1 e
theorem rk_all {t : St} (ok : Ok t) : rk t 5000 = t.n - t.f := by have := ok.fn; have := ok.nw; unfold rk; omega

set_option maxHeartbeats 16000000 in
set_option maxRecDepth 100000 in
theorem stream_walk (X : ByteArray) (o : Option Addr) (b off len cap : Nat) (C : Nat → List Value) (S : Nat → Stp) (fin : Bool) (w : World) (hX : X.size ≤ 140737488355328) (hb : 0 < len → o = some ⟨b, off, none⟩ ∧ b < w.heap.size) (hS : StepsAt w b off len C S) (hlen : len * 256 ≤ 140737488355328)
    (htx : ∀ i, i < len → (S i).txt.size ≤ 140737488355328) :
    Calls Try.prog 4 #[.string X, .slice o len cap, .bool fin] w fun e w' => e = .returned (.bool true) ∧ Below w.heap.size w w' := by
  have HN : Hid (∀ w', Calls Try.prog 7 #[] w' fun e w'' => e = .returned (.pointer (some ⟨w'.heap.size, 0, none⟩)) ∧ OT w'.heap.size st0 w'' ∧ Below w'.heap.size w' w'') := new_any
  have HS0 := Lib.hid hS
  have HB0 := Lib.hid hb
  clear hb hS htx
  have b0 : Below w.heap.size w ((w.alloc (.cells #[.string X] 9)).alloc (.cells #[.bool fin] 4)) := ((Below.refl _ _).alloc (Nat.le_refl _) _).alloc (by simp) _
  have t0 : ((w.alloc (.cells #[.string X] 9)).alloc (.cells #[.bool fin] 4)).heap[w.heap.size]? = some (.cells #[.string X] 9 (0, 0)) := (Below.heap_alloc _ _ _ (by simp)).trans (heap_alloc_new w _)
  have f0 : ((w.alloc (.cells #[.string X] 9)).alloc (.cells #[.bool fin] 4)).heap[w.heap.size + 1]? = some (.cells #[.bool fin] 4 (0, 0)) := by
    have := heap_alloc_new (w.alloc (.cells #[.string X] 9)) (.cells #[.bool fin] 4)
    rwa [show (w.alloc (.cells #[.string X] 9)).heap.size = w.heap.size + 1 from by simp] at this
  have B0 := Lib.hid b0
  have T0 := Lib.hid t0
  have F0 := Lib.hid f0
  clear b0 t0 f0
  go_enter Try.func4, Try.ntmps4
  go_wp2_with fail
  generalize (w.alloc (.cells #[.string X] 9)).alloc (.cells #[.bool fin] 4) = w0 at *
  refine (HN.out _).mono ?_; rintro e w1 ⟨rfl, hT1, hb1⟩
  have E1 : Hid (Env w (w1.alloc (.cells #[.pointer (some ⟨w0.heap.size, 0, none⟩)] 23)) w.heap.size w1.heap.size (w.heap.size + 1) w0.heap.size X fin st0) := by
    have hk : Below w1.heap.size w1 (w1.alloc (.cells #[.pointer (some ⟨w0.heap.size, 0, none⟩)] 23)) := (Below.refl _ _).alloc (Nat.le_refl _) _
    have t1 := (hb1.block _ (lt_of_heap T0.out)).trans T0.out
    have f1 := (hb1.block _ (lt_of_heap F0.out)).trans F0.out
    exact ⟨(hk.block _ (lt_of_heap t1)).trans t1, heap_alloc_new _ _, (hk.block _ (lt_of_heap f1)).trans f1, ⟨OM.keep hT1 hk, st0_ok, (B0.out.trans (hb1.mono B0.out.size)).trans (hk.mono (Nat.le_trans B0.out.size hb1.size)), B0.out.size⟩⟩
  clear hT1 hb1 B0 T0 F0 HN
  have hpl : (Try.prog.info? 23).map (·.size) = some 1 := by kernel_rfl
  have c0 := E1.out.cP
  go_wp2_with fail
  generalize w0.heap.size = bq at *
  generalize w1.heap.size = qb at *
  generalize w1.alloc (.cells #[.pointer (some ⟨bq, 0, none⟩)] 23) = w2 at *
  go_loopw [8, 19] (fun g i W => ∃ (k : Nat) (t : St), k ≤ len ∧ g = .string (X.extract 0 (t.f - 1)) ∧ i = .int .i64 k ∧ Tie X fin t ∧ Env w W w.heap.size qb (w.heap.size + 1) bq X fin t) (fun _ i _ => len - (intOf i).toNat)
  case atStart => exact ⟨0, st0, Nat.zero_le _, congrArg _ (by rw [show st0.f - 1 = 0 from rfl]; exact (extract_nil X).symm), rfl, st0_tie X fin, E1.out⟩
  case round =>
    obtain ⟨k, t, hk, rfl, rfl, hT, hE⟩ := hrel
    have E := Lib.hid hE
    have T := Lib.hid hT
    have hle := hT.le
    have hfn := hE.own.ok.fn
    have hf1 := hE.own.ok.f1
    have hf2 : t.f ≤ 1152921504606840000 := by omega
    have hf3 : t.f ≤ 1152921504606846976 := by omega
    clear hT hE E1 c0
    by_cases hlt : k < len
    · obtain ⟨ho, hbb⟩ := HB0.out (by omega)
      subst ho
      obtain ⟨hr', hcs⟩ := HS0.out k hlt
      have F := Lib.hid (step_f HS0.out hlt hbb E.out.own.be)
      have HOf : Hid (∀ w', Calls Try.prog 9 #[.agg (C k).toArray, .int .i64 4] w' fun e w'' => e = .returned (.int .i64 ((S k).kind % 4)) ∧ Below w'.heap.size w' w'') := fun w' => of_any (C k) (S k) 4 w' hcs (by omega) (by omega)
      have HSS : Hid (∀ {g : Nat} {u : St} W, Env w W w.heap.size qb (w.heap.size + 1) bq X fin u → SB g (C k) W → W.cell? ⟨g, 1, none⟩ = some (.int .i64 (S k).num) ∧ W.cell? ⟨g, 2, none⟩ = some (.int .i64 (S k).num2) ∧ W.cell? ⟨w.heap.size, 0, none⟩ = some (.string X)) := fun W he h => ⟨h.c1 hcs, h.c2 hcs, he.cT⟩
      have E4 := Lib.hid (E.out.alloc (.cells (C k).toArray 41))
      have B4 := Lib.hid F.out.blk
      have hkd0 := Int.emod_nonneg (S k).kind (show (4 : Int) ≠ 0 by omega)
      have hkd1 := Int.emod_lt_of_pos (S k).kind (show (0 : Int) < 4 by omega)
      have hn1 := hcs.n1
      have hn2 := hcs.n2
      have hp1 := hcs.p1
      have hp2 := hcs.p2
      clear hcs hr' hbb E
      generalize C k = cs at *
      generalize (S k).num = num at *
      generalize (S k).num2 = num2 at *
      generalize (S k).kind % 4 = kd at *
      obtain ⟨G, hG⟩ : ∃ G, G = X.extract 0 (t.f - 1) := ⟨_, rfl⟩
      have HGt := Lib.hid hG
      rw [← hG]
      clear hG
      go_upto_if 25 with (first | (refine wpList_load_mid rfl 41 _ rfl b (off + k * 45) rfl cs _ F.out.rr Try.underlying41 rfl F.out.hi ?_) | (refine wpList_store_last rfl 41 _ _ rfl wr _ cs.toArray rfl rfl rfl F.out.hi' F.out.h45 F.out.one ?_) | (refine wpList_load_mid rfl 41 _ rfl wr.heap.size 0 rfl cs _ B4.out.range Try.underlying41 rfl F.out.hi ?_) | (go_at_call 9; refine (HOf.out _).mono ?_; rintro e w5 ⟨rfl, hb5⟩))
      have E5 := Lib.hid (E4.out.on hb5)
      have B5 := Lib.hid (B4.out.keep hb5)
      clear E4 B4 hb5 F HOf
      generalize wr.heap.size = bx at *
      have E5d := Lib.hid E5.out.drew
      have B5d : Hid (SB bx cs w5.drew) := B5.out
      go_cut [8] from 25 to 43 (fun g W => ∃ u : St, g = .string (X.extract 0 (u.f - 1)) ∧ Tie X fin u ∧ Env w W w.heap.size qb (w.heap.size + 1) bq X fin u)
      case first =>
        by_cases hkd : kd = 0
        · have hrk := rk_le E5.out.own.ok num2
          have HRd : Hid (∀ W, Env w W w.heap.size qb (w.heap.size + 1) bq X fin t → Calls Try.prog 12 #[.pointer (some ⟨bq, 0, none⟩), .int .i64 num2] W fun e W' => e = .returned (.string (str t.c t.f (rk t num2))) ∧ Env w W' w.heap.size qb (w.heap.size + 1) bq X fin (rd t num2)) := fun W h => (o_read h.own hf3 num2 hp1 hp2).mono fun e W' h' => ⟨h'.1, h.put h'.2.1 h'.2.2⟩
          have hs := T.out.st t.f (rk t num2) hf1 hrk
          have HTu := Lib.hid (T.out.rdd num2)
          have hz : G.size = t.f - 1 := by rw [HGt.out, extract_size (Nat.zero_le _) (by omega)]; omega
          have hz2 : (str t.c t.f (rk t num2)).size = rk t num2 := str_size _ _ _
          have ta : ∀ w', (Op.stringOp .add G (str t.c t.f (rk t num2))).run Try.prog w' = .ok (.string (X.extract 0 ((rd t num2).f - 1))) w' := fun w' => by
            rw [run_string_add_sum w' _ _ (by omega), HGt.out, hs, extract_app X (Nat.zero_le _) (by omega) (by omega)]
            congr 3
            show _ = t.f + rk t num2 - 1
            omega
          have hc2 := (HSS.out _ E5.out B5.out).2.1
          have hcP := E5.out.cP
          have hkk : (kd == 0) = true := beq_iff_eq.2 hkd
          clear hz hz2 hs hrk
          generalize str t.c t.f (rk t num2) = Y at *
          generalize rd t num2 = u at *
          subst hkd
          go_wp2_with fail
          refine (HRd.out _ E5.out).mono ?_; rintro e w6 ⟨rfl, hE6⟩
          have E6 := Lib.hid hE6
          clear hE6 hc2 hcP
          go_wp2_with fail
          go_meet
          exact ⟨u, rfl, HTu.out, E6.out⟩
        · have hkk : (kd == 0) = false := beq_eq_false_iff_ne.2 hkd
          have hm0 := Int.emod_nonneg num (show (X.size : Int) + 1 ≠ 0 by omega)
          have hm1 := Int.emod_lt_of_pos num (show (0 : Int) < (X.size : Int) + 1 by omega)
          obtain ⟨A, hA⟩ := Int.eq_ofNat_of_zero_le hm0
          have hM0 := Int.emod_nonneg num2 (show (2000 : Int) ≠ 0 by omega)
          have hM1 := Int.emod_lt_of_pos num2 (show (0 : Int) < 2000 by omega)
          have HR1 : Hid (∀ W v, v = (X.size : Int) + 1 → Calls Try.prog 23 #[.int .i64 num, .int .i64 v] W fun e W' => e = .returned (.int .i64 (A : Int)) ∧ W' = W) := fun W v hv => by
            subst hv; rw [← hA]; exact rest_any num _ W (by omega) (by omega) hn1 hn2
          have HR2 : Hid (∀ W, Calls Try.prog 23 #[.int .i64 num2, .int .i64 2000] W fun e W' => e = .returned (.int .i64 (num2 % 2000)) ∧ W' = W) := fun W => rest_any num2 2000 W (by omega) (by omega) hp1 hp2
          have hAX : A ≤ X.size := by omega
          obtain ⟨B, hB⟩ : ∃ B : Nat, (B : Int) = min (X.size : Int) ((A : Int) + num2 % 2000) := ⟨(min (X.size : Int) ((A : Int) + num2 % 2000)).toNat, by omega⟩
          obtain ⟨u, hu⟩ : ∃ u, u = put t ((A : Int) + 1) (X.extract A B) (fin && decide (B = X.size)) := ⟨_, rfl⟩
          have HC : Hid (∀ W, Env w W w.heap.size qb (w.heap.size + 1) bq X fin t → Calls Try.prog 22 #[.int .i64 (A : Int), .int .i64 (num2 % 2000), .pointer (some ⟨w.heap.size, 0, none⟩), .pointer (some ⟨qb, 0, none⟩), .pointer (some ⟨w.heap.size + 1, 0, none⟩)] W fun e W' => e = .returned (.bool true) ∧ Env w W' w.heap.size qb (w.heap.size + 1) bq X fin u ∧ Kp [bq] W W') := fun W h => clo_any h hX hf2 A B hAX _ hM0 (by omega) hB u hu
          have HTu : Hid (Tie X fin u) := by show Tie _ _ _; rw [hu]; exact T.out.pt E5.out.own.ok A B (by omega) (by omega)
          have HG : Hid (Value.string G = .string (X.extract 0 (u.f - 1))) := by show _ = _; rw [HGt.out, hu, put_ff]
          clear hm0 hm1 hA hB hu hAX
          generalize num2 % 2000 = M at *
          go_wp2_with fail
          refine wp_region_held_drew (S := fun w' => w'.cell? ⟨bx, 1, none⟩ = some (.int .i64 num) ∧ w'.cell? ⟨bx, 2, none⟩ = some (.int .i64 num2) ∧ w'.cell? ⟨w.heap.size, 0, none⟩ = some (.string X)) (by kernel_rfl) (HSS.out _ E5d.out B5d.out) (fun hHeld => ?_)
          refine takeH (i := 0) (d := some 32) (v := ?_) rfl rfl (by kernel_rfl) (by kernel_rfl) (by kernel_rfl) (fun _ _ _ h => h) (Or.inl ⟨by rfl, ?_⟩) hHeld ?_
          rotate_left
          · intro w' hSw; (try dsimp only at hSw); go_simp; try with_reducible rfl
          simp only [Act.put, List.setIfInBounds_toArray, List.set_cons_zero, List.set_cons_succ]
          refine takeH (i := 1) (d := some 33) (v := ?_) rfl rfl (by kernel_rfl) (by kernel_rfl) (by kernel_rfl) (fun _ _ _ h => h) (Or.inl ⟨by rfl, ?_⟩) hHeld ?_
          rotate_left
          · intro w' hSw; (try dsimp only at hSw); go_simp; try with_reducible rfl
          simp only [Act.put, List.setIfInBounds_toArray, List.set_cons_zero, List.set_cons_succ]
          refine takeH (i := 2) (d := some 34) (v := ?_) rfl rfl (by kernel_rfl) (by kernel_rfl) (by kernel_rfl) (fun _ _ _ h => h) (Or.inl ⟨by rfl, ?_⟩) hHeld ?_
          rotate_left
          · intro w' hSw; (try dsimp only at hSw); go_simp; try with_reducible rfl
          simp only [Act.put, List.setIfInBounds_toArray, List.set_cons_zero, List.set_cons_succ]
          refine takeH (i := 3) (d := some 35) (v := ?_) rfl rfl (by kernel_rfl) (by kernel_rfl) (by kernel_rfl) (fun _ _ _ h => h) (Or.inl ⟨by rfl, ?_⟩) hHeld ?_
          rotate_left
          · intro w' hSw; (try dsimp only at hSw); go_simp; try with_reducible rfl
          simp only [Act.put, List.setIfInBounds_toArray, List.set_cons_zero, List.set_cons_succ]
          refine takeH (i := 4) (d := some 36) (v := ?_) rfl rfl (by kernel_rfl) (by kernel_rfl) (by kernel_rfl) (fun _ _ _ h => h) (Or.inl ⟨by rfl, ?_⟩) hHeld ?_
          rotate_left
          · intro w' hSw; (try dsimp only at hSw); go_simp; try with_reducible rfl
          simp only [Act.put, List.setIfInBounds_toArray, List.set_cons_zero, List.set_cons_succ]
          refine takeH (i := 5) (d := some 37) (v := ?_) rfl rfl (by kernel_rfl) (by kernel_rfl) (by kernel_rfl) (fun _ _ _ h => h) (Or.inl ⟨by rfl, ?_⟩) hHeld ?_
          rotate_left
          · intro w' hSw; (try dsimp only at hSw); go_simp; try with_reducible rfl
          simp only [Act.put, List.setIfInBounds_toArray, List.set_cons_zero, List.set_cons_succ]
          refine takeH (i := 7) (d := some 39) (v := ?_) rfl rfl (by kernel_rfl) (by kernel_rfl) (by kernel_rfl) (fun _ _ _ h => h) (Or.inl ⟨by rfl, ?_⟩) hHeld ?_
          rotate_left
          · intro w' hSw; (try dsimp only at hSw); go_simp; try with_reducible rfl
          simp only [Act.put, List.setIfInBounds_toArray, List.set_cons_zero, List.set_cons_succ]
          refine takeH (i := 8) (d := some 40) (v := ?_) rfl rfl (by kernel_rfl) (by kernel_rfl) (by kernel_rfl) (fun _ _ _ h => h) (Or.inl ⟨by rfl, ?_⟩) hHeld ?_
          rotate_left
          · intro w' hSw; (try dsimp only at hSw); go_simp; try with_reducible rfl
          simp only [Act.put, List.setIfInBounds_toArray, List.set_cons_zero, List.set_cons_succ]
          refine wpAnyH_ready (rs := [6]) (by kernel_rfl) (by simp) ?_
          refine AllReadyH.cons rfl (fun K hK => ?_) AllReadyH.nil
          go_simp
          refine (HR1.out _ _ ?_).mono ?_
          · first | (rw [IntKind.wrap_i64]; omega) | omega | rfl
          rintro e w6 ⟨rfl, rfl⟩
          clear hHeld
          refine hK.out _ _ (HSS.out _ E5d.out B5d.out) (fun hHeld => ?_)
          clear hK K
          try simp only [Act.put, List.setIfInBounds_toArray, List.set_cons_zero, List.set_cons_succ]
          refine wpAnyH_ready (rs := [9]) (by kernel_rfl) (by simp) ?_
          refine AllReadyH.cons rfl (fun K hK => ?_) AllReadyH.nil
          go_simp
          refine (HR2.out _).mono ?_
          rintro e w7 ⟨rfl, rfl⟩
          clear hHeld
          refine hK.out _ _ (HSS.out _ E5d.out B5d.out) (fun hHeld => ?_)
          clear hK K
          try simp only [Act.put, List.setIfInBounds_toArray, List.set_cons_zero, List.set_cons_succ]
          refine wpAnyH_ready (rs := [10]) (by kernel_rfl) (by simp) ?_
          refine AllReadyH.cons rfl (fun K hK => ?_) AllReadyH.nil
          go_simp
          refine (HC.out _ E5d.out).mono ?_
          rintro e w8 ⟨rfl, hE8, hK8⟩
          have E8 := Lib.hid hE8
          have B8 := Lib.hid (SB.ko B5d.out E5d.out.own.own hK8)
          clear hE8 hK8 hHeld
          refine hK.out _ _ (HSS.out _ E8.out B8.out) (fun hHeld => ?_)
          clear hK K
          try simp only [Act.put, List.setIfInBounds_toArray, List.set_cons_zero, List.set_cons_succ]
          refine takeH (i := 11) (d := some 43) (v := ?_) rfl rfl (by kernel_rfl) (by kernel_rfl) (by kernel_rfl) (fun _ _ _ h => h) (Or.inl ⟨by rfl, ?_⟩) hHeld ?_
          rotate_left
          · intro w' hSw; (try dsimp only at hSw); go_simp; try with_reducible rfl
          simp only [Act.put, List.setIfInBounds_toArray, List.set_cons_zero, List.set_cons_succ]
          refine wpAnyH_done (by kernel_rfl) ?_ _
          try go_wp2_with fail
          go_meet
          exact ⟨u, HG.out, HTu.out, E8.out⟩
      case rest =>
        obtain ⟨u, rfl, hTu, hEu⟩ := hcut
        have Eu := Lib.hid hEu
        have Tu := Lib.hid hTu
        have hle' := hTu.le
        have hfn' := hEu.own.ok.fn
        have hf1' := hEu.own.ok.f1
        have hf3' : u.f ≤ 1152921504606846976 := by omega
        clear hTu hEu E5 B5 E5d B5d HSS hn1 hn2 hp1 hp2 hkd0 hkd1
        obtain ⟨H, hH⟩ : ∃ H, H = X.extract 0 (u.f - 1) := ⟨_, rfl⟩
        have HHu := Lib.hid hH
        have hz : H.size = u.f - 1 := by rw [hH, extract_size (Nat.zero_le _) (by omega)]; omega
        rw [← hH]
        have hsl : ∀ w', (Instr.slice 9 (.string X) none (some (.int .i64 (H.size : Int))) none).run Try.prog w' = .ok (.string H) w' := fun w' => by rw [hH]; exact slice_b X (u.f - 1) (by omega) _ (by rw [← hH]; omega) w'
        have g1 : decide ((X.size : Int) < (H.size : Int)) = false := decide_eq_false (by omega)
        have g2 : decide (X.size < H.size) = false := decide_eq_false (by omega)
        have gs : (H.toList == H.toList) = true := beq_self_eq_true _
        have HO : Hid (∀ n, Calls Try.prog 20 #[.pointer (some ⟨bq, 0, none⟩)] (wc.drewN n) fun e w' => e = .returned (.bool (over u)) ∧ ∃ m, w' = (wc.drewN n).drewN m) := fun n => over_any (Eu.out.drewN n).own.own Eu.out.own.ok.lo
        have HRy : Hid (∀ n, Calls Try.prog 18 #[.pointer (some ⟨bq, 0, none⟩)] (wc.drewN n) fun e w' => e = .returned (.int .i64 (rdy u : Int)) ∧ ∃ m, w' = (wc.drewN n).drewN m) := fun n => ready_any (Eu.out.drewN n).own.own Eu.out.own.ok.lo hf3'
        have cT := Eu.out.cT
        have cP := Eu.out.cP
        have cF := Eu.out.cF
        have HF : Hid (Value.string H = .string (X.extract 0 (u.f - 1))) := congrArg _ hH
        cases hov : over u with
        | true =>
          obtain ⟨hfin, hnX⟩ := Tu.out.ov Eu.out.own.ok hov
          have hrz : (rdy u : Int) = (X.size : Int) - (H.size : Int) := by unfold rdy; omega
          rw [hrz] at HRy
          rw [hov] at HO
          have HFin := Lib.hid hfin
          rw [hfin] at cF
          have hx0 : (X.size : Int) ≤ 140737488355328 := by omega
          have hx1 : (H.size : Int) ≤ 140737488355328 := by omega
          clear hov hrz hnX hz hH hfin hle' hfn' hf1' hf3'
          go_wp2_with fail
          go_quiet (first | (go_at_call 20; exact Calls.quiet_of (HO.out _)) | (go_at_call 18; exact Calls.quiet_of (HRy.out _)))
          have E9 := Lib.hid (Eu.out.drewN nq)
          clear Eu cT cP cF HO HRy
          generalize wc.drewN nq = w9 at *
          go_wp2_with fail
          go_roundw
          case rel => exact ⟨k + 1, u, by omega, HF.out, by go_num, Tu.out, E9.out⟩
          case measure => simp only [intOf]; omega
        | false =>
          rw [hov] at HO
          have hx1 : (H.size : Int) ≤ 140737488355328 := by omega
          clear hov hz hH hle' hfn' hf1' hf3'
          go_wp2_with fail
          go_quiet (first | (go_at_call 20; exact Calls.quiet_of (HO.out _)) | (go_at_call 18; exact Calls.quiet_of (HRy.out _)))
          have E9 := Lib.hid (Eu.out.drewN nq)
          clear Eu cT cP cF HO HRy
          generalize wc.drewN nq = w9 at *
          go_wp2_with fail
          go_roundw
          case rel => exact ⟨k + 1, u, by omega, HF.out, by go_num, Tu.out, E9.out⟩
          case measure => simp only [intOf]; omega
    · have hlt' : ¬ ((k : Int) < (len : Int)) := by omega
      obtain ⟨G, hG⟩ : ∃ G, G = X.extract 0 (t.f - 1) := ⟨_, rfl⟩
      have HG0 : Hid (Value.string G = .string (X.extract 0 (t.f - 1))) := congrArg _ hG
      rw [← hG]
      clear hG
      go_wp2_with fail
      go_loopw [8, 12] (fun g i W => ∃ (a : Nat) (t : St), a ≤ X.size ∧ a < t.f ∧ g = .string (X.extract 0 (t.f - 1)) ∧ i = .int .i64 a ∧ Tie X fin t ∧ Env w W w.heap.size qb (w.heap.size + 1) bq X fin t) (fun _ i _ => X.size - (intOf i).toNat)
      case atStart => exact ⟨0, t, Nat.zero_le _, hf1, HG0.out, rfl, T.out, E.out⟩
      case round =>
        clear hle hfn hf1 hf2 hf3 T E HG0
        obtain ⟨a, t2, ha, haf, rfl, rfl, hT2, hE2⟩ := hrel
        have E2 := Lib.hid hE2
        have T2 := Lib.hid hT2
        have hle := hT2.le
        have hfn := hE2.own.ok.fn
        have hf1 := hE2.own.ok.f1
        have hf2 : t2.f ≤ 1152921504606840000 := by omega
        have ok2 := hE2.own.ok
        obtain ⟨B, hB⟩ : ∃ B : Nat, (B : Int) = min (X.size : Int) ((a : Int) + 900) := ⟨(min (X.size : Int) ((a : Int) + 900)).toNat, by omega⟩
        obtain ⟨u, hu⟩ : ∃ u, u = put t2 ((a : Int) + 1) (X.extract a B) (fin && decide (B = X.size)) := ⟨_, rfl⟩
        have HC : Hid (∀ W, Env w W w.heap.size qb (w.heap.size + 1) bq X fin t2 → Calls Try.prog 22 #[.int .i64 (a : Int), .int .i64 900, .pointer (some ⟨w.heap.size, 0, none⟩), .pointer (some ⟨qb, 0, none⟩), .pointer (some ⟨w.heap.size + 1, 0, none⟩)] W fun e W' => e = .returned (.bool true) ∧ Env w W' w.heap.size qb (w.heap.size + 1) bq X fin u ∧ Kp [bq] W W') := fun W h => clo_any h hX hf2 a B ha 900 (by omega) (by omega) hB u hu
        have hTu : Tie X fin u := by rw [hu]; exact T2.out.pt ok2 a B (by omega) (by omega)
        have oku : Ok u := by rw [hu]; exact ok2.put _ _ _
        have huf : u.f = t2.f := by rw [hu, put_ff]
        have htk := T2.out.took ok2 a B (by omega) (by omega) (by omega) haf (by omega)
        rw [← hu] at htk
        obtain ⟨hn1, hov⟩ := htk
        have hun := oku.fn
        have hul := hTu.le
        have hrk := rk_all oku
        have HRd : Hid (∀ W, Env w W w.heap.size qb (w.heap.size + 1) bq X fin u → Calls Try.prog 12 #[.pointer (some ⟨bq, 0, none⟩), .int .i64 5000] W fun e W' => e = .returned (.string (str u.c u.f (rk u 5000))) ∧ Env w W' w.heap.size qb (w.heap.size + 1) bq X fin (rd u 5000)) := fun W h => (o_read h.own (by omega) 5000 (by omega) (by omega)).mono fun e W' h' => ⟨h'.1, h.put h'.2.1 h'.2.2⟩
        have hvf : (rd u 5000).f = u.n := by show u.f + rk u 5000 = _; omega
        have hvo : over (rd u 5000) = over u := rfl
        have hvr : rdy (rd u 5000) = 0 := by unfold rdy; rw [hvf]; show u.n - u.n = 0; omega
        have HTv := Lib.hid (hTu.rdd 5000)
        have hs := hTu.st u.f (rk u 5000) oku.f1 (by omega)
        obtain ⟨G2, hG2⟩ : ∃ G2, G2 = X.extract 0 (t2.f - 1) := ⟨_, rfl⟩
        rw [← hG2]
        have hz : G2.size = t2.f - 1 := by rw [hG2, extract_size (Nat.zero_le _) (by omega)]; omega
        have hz2 : (str u.c u.f (rk u 5000)).size = rk u 5000 := str_size _ _ _
        have ta : ∀ w', (Op.stringOp .add G2 (str u.c u.f (rk u 5000))).run Try.prog w' = .ok (.string (X.extract 0 ((rd u 5000).f - 1))) w' := fun w' => by
          rw [run_string_add_sum w' _ _ (by omega), hG2, hs, huf, extract_app X (Nat.zero_le _) (by omega) (by omega)]
          congr 3
          show _ = u.f + rk u 5000 - 1
          omega
        have hmin : min (a : Int) (X.size : Int) = (a : Int) := by omega
        have hab : (a : Int) ≤ 140737488355328 := by omega
        clear hT2 hE2 hs hz hz2 hG2 hu
        by_cases hend : X.size ≤ a + 900
        · have hBX : B = X.size := by omega
          have hovu := hov hBX
          have hnX : u.n = X.size + 1 := by omega
          have hXX : X.extract 0 ((rd u 5000).f - 1) = X := by rw [hvf, hnX]; exact extract_all X
          rw [hXX] at ta
          have hge : (X.size : Int) ≤ (a : Int) + 900 := by omega
          have okv := oku.rd 5000
          have hvf2 : (rd u 5000).f ≤ 1152921504606846976 := by rw [hvf]; omega
          have HO : Hid (∀ W, Env w W w.heap.size qb (w.heap.size + 1) bq X fin (rd u 5000) → ∀ n, Calls Try.prog 20 #[.pointer (some ⟨bq, 0, none⟩)] (W.drewN n) fun e w' => e = .returned (.bool fin) ∧ ∃ m, w' = (W.drewN n).drewN m) := fun W h n => by
            have := over_any (h.drewN n).own.own okv.lo
            rwa [hvo, hovu] at this
          have HRy : Hid (∀ W, Env w W w.heap.size qb (w.heap.size + 1) bq X fin (rd u 5000) → ∀ n, Calls Try.prog 18 #[.pointer (some ⟨bq, 0, none⟩)] (W.drewN n) fun e w' => e = .returned (.int .i64 0) ∧ ∃ m, w' = (W.drewN n).drewN m) := fun W h n => by
            have := ready_any (h.drewN n).own.own okv.lo hvf2
            rwa [hvr] at this
          have cT := E2.out.cT
          have gs : (X.toList == X.toList) = true := beq_self_eq_true _
          clear hBX hovu hnX hXX okv hvf2 hvf hvo hvr hov hn1 hun hul hrk hTu oku huf ok2 hB
          generalize str u.c u.f (rk u 5000) = Y at *
          generalize rd u 5000 = v at *
          go_wp2_with fail
          refine (HC.out _ E2.out).mono ?_; rintro e w6 ⟨rfl, hE6, _⟩
          have cP := hE6.cP
          go_wp2_with fail
          refine (HRd.out _ hE6).mono ?_; rintro e w7 ⟨rfl, hE7⟩
          have E7 := Lib.hid hE7
          clear hE6 hE7 cP cT
          have cT := E7.out.cT
          have cP := E7.out.cP
          have cF := E7.out.cF
          have hf : (fin == fin) = true := beq_self_eq_true _
          go_wp2_with fail
          cases fin
          · go_quiet (first | (go_at_call 20; exact Calls.quiet_of (HO.out _ E7.out _)) | (go_at_call 18; exact Calls.quiet_of (HRy.out _ E7.out _)))
            have E9 := Lib.hid (E7.out.drewN nq).own.be
            go_wp2_with fail
            go_ret
            exact ⟨ret_bool (by first | rfl | (simp; done)), E9.out⟩
          · go_quiet (first | (go_at_call 20; exact Calls.quiet_of (HO.out _ E7.out _)) | (go_at_call 18; exact Calls.quiet_of (HRy.out _ E7.out _)))
            have E9 := Lib.hid (E7.out.drewN nq).own.be
            go_wp2_with fail
            go_ret
            exact ⟨ret_bool (by first | rfl | (simp; done)), E9.out⟩
        · have hge : ¬ (X.size : Int) ≤ (a : Int) + 900 := by omega
          have hav : a + 900 < (rd u 5000).f := by omega
          have cT := E2.out.cT
          clear hvf hvo hvr hov hn1 hun hul hrk hTu oku huf ok2 hB
          generalize str u.c u.f (rk u 5000) = Y at *
          obtain ⟨G3, hG3⟩ : ∃ G3, G3 = X.extract 0 ((rd u 5000).f - 1) := ⟨_, rfl⟩
          rw [← hG3] at ta
          have HG3 : Hid (Value.string G3 = .string (X.extract 0 ((rd u 5000).f - 1))) := congrArg _ hG3
          clear hG3
          generalize rd u 5000 = v at *
          go_wp2_with fail
          refine (HC.out _ E2.out).mono ?_; rintro e w6 ⟨rfl, hE6, _⟩
          have cP := hE6.cP
          go_wp2_with fail
          refine (HRd.out _ hE6).mono ?_; rintro e w7 ⟨rfl, hE7⟩
          have E7 := Lib.hid hE7
          clear hE6 hE7 cP cT
          have cT := E7.out.cT
          go_wp2_with fail
          go_roundw
          case rel => exact ⟨a + 900, v, by omega, hav, HG3.out, by go_num, HTv.out, E7.out⟩
          case measure => simp only [intOf]; omega
end Go.Proofs.Ythdjdfemckjebaa
