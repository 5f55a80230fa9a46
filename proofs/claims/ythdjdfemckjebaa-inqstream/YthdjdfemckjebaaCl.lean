/-
  The closure of InqStream: a piece of the text is put.
-/
import Derived.Test.YthdjdfemckjebaaOn
import Derived.Test.YthdjdfemckjebaaMx
namespace Go.Proofs.Ythdjdfemckjebaa
open Go.RowKit
set_option linter.unusedVariables false
set_option linter.unusedSimpArgs false

theorem takeH {P : Program} {md : Region.Mode} {ops : Array Oper} {Q : Exit → Act → World → Prop} {S : World → Prop} {i : Nat} {oi : Oper} {d : Option Tmp} {v : Value} {fuel : Nat} {listed : Array Bool} {a : Act} {w : World} (hi : ops[i]? = some oi) (hd : oi.dst = d)
    (hs : Region.noSelect ops = true) (hf : Region.free md ops listed i = true) (hr : (Region.ready md ops listed).contains i = true)
    (hQ : ∀ c a w, Q (.panic c) (a.put d v) w → Q (.panic c) a w) (hy : YieldsIf P ops S oi v a) (hS : S w)
    (h : wpAnyH P md ops Q S fuel (listed.setIfInBounds i true) (a.put d v) w) : wpAnyH P md ops Q S (fuel + 1) listed a w := by
  subst hd
  exact wpAnyH_take hi hs hf hr hQ hy hS h

/-- What the closure sees: the text's box, the queue's, FIN's. -/
structure Env (w W : World) (tb qb fb b : Nat) (X : ByteArray) (fin : Bool) (t : St) : Prop where
  txt : W.heap[tb]? = some (.cells #[.string X] 9 (0, 0))
  ptr : W.heap[qb]? = some (.cells #[.pointer (some ⟨b, 0, none⟩)] 23 (0, 0))
  fn : W.heap[fb]? = some (.cells #[.bool fin] 4 (0, 0))
  own : Own w W b t
section
variable {w W W' : World} {tb qb fb b : Nat} {X : ByteArray} {fin : Bool} {t t' : St}
theorem Env.ne {k : Nat} {cs : Array Value} {ty : TypeId} (h : OT b t W) (hk : W.heap[k]? = some (.cells cs ty (0, 0))) (hty : ty ≠ 56) : k ≠ b := fun e => by
  obtain ⟨a, ha⟩ := h.blk'
  rw [e, ha] at hk
  injection hk with hk
  injection hk with _ hk
  exact hty hk.symm
theorem Env.on (h : Env w W tb qb fb b X fin t) (hb : Below W.heap.size W W') : Env w W' tb qb fb b X fin t :=
  ⟨(hb.block _ (lt_of_heap h.txt)).trans h.txt, (hb.block _ (lt_of_heap h.ptr)).trans h.ptr, (hb.block _ (lt_of_heap h.fn)).trans h.fn, h.own.on hb⟩
theorem Env.drewN (h : Env w W tb qb fb b X fin t) (n : Nat) : Env w (W.drewN n) tb qb fb b X fin t := h.on (below_drewN W n)
theorem Env.drew (h : Env w W tb qb fb b X fin t) : Env w W.drew tb qb fb b X fin t := h.on ((Below.refl _ _).drew)
theorem Env.alloc (h : Env w W tb qb fb b X fin t) (o : Obj) : Env w (W.alloc o) tb qb fb b X fin t := h.on ((Below.refl _ _).alloc (Nat.le_refl _) _)
theorem Env.put (h : Env w W tb qb fb b X fin t) (ho : Own w W' b t') (hk : Kp [b] W W') : Env w W' tb qb fb b X fin t' :=
  ⟨(hk.block _ (lt_of_heap h.txt) (by simpa using Env.ne h.own.own h.txt (by decide))).trans h.txt, (hk.block _ (lt_of_heap h.ptr) (by simpa using Env.ne h.own.own h.ptr (by decide))).trans h.ptr, (hk.block _ (lt_of_heap h.fn) (by simpa using Env.ne h.own.own h.fn (by decide))).trans h.fn, ho⟩
theorem Env.cT (h : Env w W tb qb fb b X fin t) : W.cell? ⟨tb, 0, none⟩ = some (.string X) := Joins.cell_of_block h.txt 0
theorem Env.cP (h : Env w W tb qb fb b X fin t) : W.cell? ⟨qb, 0, none⟩ = some (.pointer (some ⟨b, 0, none⟩)) := Joins.cell_of_block h.ptr 0
theorem Env.cF (h : Env w W tb qb fb b X fin t) : W.cell? ⟨fb, 0, none⟩ = some (.bool fin) := Joins.cell_of_block h.fn 0

theorem slice_ab (X : ByteArray) (a b : Nat) (h1 : a ≤ b) (h2 : b ≤ X.size) (x y : Int) (hx : x = (a : Int)) (hy : y = (b : Int)) (w : World) : (Instr.slice 9 (.string X) (some (.int .i64 x)) (some (.int .i64 y)) none).run Try.prog w = .ok (.string (X.extract a b)) w := by
  subst hx hy
  have := run_slice_string (P := Try.prog) w 9 X .i64 .i64 (a : Int) (b : Int) Try.underlying9 (by omega) (by omega) (by omega)
  simpa using this
theorem slice_b (X : ByteArray) (b : Nat) (h2 : b ≤ X.size) (y : Int) (hy : y = (b : Int)) (w : World) : (Instr.slice 9 (.string X) none (some (.int .i64 y)) none).run Try.prog w = .ok (.string (X.extract 0 b)) w := by
  subst hy
  have := run_slice_string_h (P := Try.prog) w 9 X Try.underlying9 .i64 (b : Int) (by omega) (by omega)
  simpa using this
/-- The edge never goes back. -/
theorem edge_ge {t : St} (ok : Ok t) (q : Int) (x : ByteArray) (f : Bool) : (nxt t : Int) + wnd t ≤ (nxt (Go.Proofs.Ythdjdfemckjebaa.put t q x f) : Int) + wnd (Go.Proofs.Ythdjdfemckjebaa.put t q x f) := by
  cases ho : over t with
  | true => rw [put_over ho]; exact Int.le_refl _
  | false =>
    rw [nxt_wnd ho]
    obtain ⟨u, hu⟩ : ∃ u, u = Go.Proofs.Ythdjdfemckjebaa.put t q x f := ⟨_, rfl⟩
    have hf : u.f = t.f := by rw [hu]; exact put_ff _ _ _ _
    rw [← hu]
    unfold nxt wnd
    rw [hf]
    split <;> omega
set_option maxHeartbeats 8000000 in
set_option maxRecDepth 100000 in
theorem clo_any (h : Env w W tb qb fb b X fin t) (hX : X.size ≤ 140737488355328) (hf : t.f ≤ 1152921504606840000) (A B : Nat) (hA : A ≤ X.size) (m : Int) (m0 : 0 ≤ m) (m1 : m ≤ 2000) (hB : (B : Int) = min (X.size : Int) ((A : Int) + m)) (u : St) (hu : u = Go.Proofs.Ythdjdfemckjebaa.put t ((A : Int) + 1) (X.extract A B) (fin && decide (B = X.size))) :
    Calls Try.prog 22 #[.int .i64 (A : Int), .int .i64 m, .pointer (some ⟨tb, 0, none⟩), .pointer (some ⟨qb, 0, none⟩), .pointer (some ⟨fb, 0, none⟩)] W fun e W' => e = .returned (.bool true) ∧ Env w W' tb qb fb b X fin u ∧ Kp [b] W W' := by
  have hAB : A ≤ B := by omega
  have hBX : B ≤ X.size := by omega
  have ok := h.own.ok
  have hB' : min (X.size : Int) ((A : Int) + m) = (B : Int) := hB.symm
  obtain ⟨fl, hfl⟩ : ∃ fl : Bool, fl = (fin && decide (B = X.size)) := ⟨_, rfl⟩
  rw [← hfl] at hu
  have HFl := Lib.hid hfl
  have E0 := Lib.hid h
  have ok1 : Ok u := by rw [hu]; exact ok.put _ _ _
  have hfu : u.f ≤ 1152921504606846976 := by rw [hu, put_ff]; omega
  have HN0 : Hid (∀ W, Own w W b t → Calls Try.prog 14 #[.pointer (some ⟨b, 0, none⟩)] W fun e w' => e = .returned (.int .i64 (nxt t : Int)) ∧ w' = W) := fun W h => o_next h
  have HW0 : Hid (∀ W, Own w W b t → Calls Try.prog 16 #[.pointer (some ⟨b, 0, none⟩)] W fun e w' => e = .returned (.int .i64 (wnd t)) ∧ ∃ k, w' = W.drewN k) := fun W h => window_any h.own h.ok.lo (by omega)
  have HP : Hid (∀ W q, q = (A : Int) + 1 → Env w W tb qb fb b X fin t → Calls Try.prog 10 #[.pointer (some ⟨b, 0, none⟩), .int .i64 q, .string (X.extract A B), .bool fl] W fun e w' => e = .returned (.bool (moved t ((A : Int) + 1) (X.extract A B) fl)) ∧ Env w w' tb qb fb b X fin u ∧ Kp [b] W w') := fun W q hq h => by
    subst hq
    exact (o_put h.own (by omega) _ (by omega) (by omega) _ (by rw [extract_size hAB hBX]; omega) fl).mono fun e w' h' => ⟨h'.1, h.put (by rw [hu]; exact h'.2.1) h'.2.2, h'.2.2⟩
  have HN1 : Hid (∀ W, Own w W b u → Calls Try.prog 14 #[.pointer (some ⟨b, 0, none⟩)] W fun e w' => e = .returned (.int .i64 (nxt u : Int)) ∧ w' = W) := fun W h => o_next h
  have HW1 : Hid (∀ W, Own w W b u → Calls Try.prog 16 #[.pointer (some ⟨b, 0, none⟩)] W fun e w' => e = .returned (.int .i64 (wnd u)) ∧ ∃ k, w' = W.drewN k) := fun W h => window_any h.own h.ok.lo hfu
  have d1 : ¬ (nxt u : Int) < (nxt t : Int) := by have := nxt_put_ge ok ((A : Int) + 1) (X.extract A B) fl; rw [← hu] at this; omega
  have d3 : ¬ (nxt u : Int) + wnd u < (nxt t : Int) + wnd t := by have := edge_ge ok ((A : Int) + 1) (X.extract A B) fl; rw [← hu] at this; omega
  have d4 : ¬ wnd u < 0 := by have := ok1.nw; unfold wnd; omega
  have d5 : ¬ 2048 < wnd u := by have := ok1.fn; unfold wnd; omega
  have HMv : Hid (moved t ((A : Int) + 1) (X.extract A B) fl = decide ((nxt t : Int) < (nxt u : Int))) := by
    show _ = _
    unfold moved; rw [← hu, decide_eq_decide]; omega
  have n0 : (0 : Int) ≤ (nxt t : Int) := by omega
  have n1 : (nxt t : Int) ≤ 1152921504606850000 := by have := nxt_le t; have := ok.nw; omega
  have n2 : (0 : Int) ≤ (nxt u : Int) := by omega
  have n3 : (nxt u : Int) ≤ 1152921504606850000 := by have := nxt_le u; have := ok1.nw; omega
  have v0 : -10000 ≤ wnd t := by have := ok.nw; unfold wnd; omega
  have v1 : wnd t ≤ 2048 := by have := ok.fn; unfold wnd; omega
  have hsl : ∀ w', (Instr.slice 9 (.string X) (some (.int .i64 (A : Int))) (some (.int .i64 (B : Int))) none).run Try.prog w' = .ok (.string (X.extract A B)) w' := fun w' => slice_ab X A B hAB hBX _ _ rfl rfl w'
  clear ok ok1 hfu hu hB hfl h hf
  generalize moved t ((A : Int) + 1) (X.extract A B) fl = mv at *
  generalize X.extract A B = Y at *
  generalize (nxt t : Int) = N0 at *
  generalize (nxt u : Int) = N1 at *
  generalize wnd t = V0 at *
  generalize wnd u = V1 at *
  have cT := E0.out.cT
  have cP := E0.out.cP
  have cF := E0.out.cF
  go_enter Try.func22, Try.ntmps22
  go_wp2_with fail
  go_quiet (first | (go_at_call 14; exact Calls.quiet_of_same (HN0.out _ (E0.out.drewN _).own)) | (go_at_call 16; exact Calls.quiet_of (HW0.out _ (E0.out.drewN _).own)))
  have E1 := Lib.hid (E0.out.drewN nq)
  have K1 : Hid (Kp [b] W (W.drewN nq)) := (Kp.refl _ _).drewN _
  clear E0 cT cP cF HN0 HW0
  generalize W.drewN nq = w1 at *
  have cT := E1.out.cT
  have cP := E1.out.cP
  have cF := E1.out.cF
  go_upto_region 3 with fail
  go_cut [11] from 25 to 39 (fun v wc => v = .bool mv ∧ Env w wc tb qb fb b X fin u ∧ Kp [b] W wc)
  case first =>
    cases fin with
    | false =>
      have hfl : fl = false := by rw [HFl.out]; rfl
      subst hfl
      clear HFl d1 d3 d4 d5 HN1 HW1 HMv
      refine wp_region_held_drew (S := fun w' => w'.cell? ⟨tb, 0, none⟩ = some (.string X) ∧ w'.cell? ⟨qb, 0, none⟩ = some (.pointer (some ⟨b, 0, none⟩)) ∧ w'.cell? ⟨fb, 0, none⟩ = some (.bool false)) (by kernel_rfl) ⟨cT, cP, cF⟩ (fun hHeld => ?_)
      refine takeH (i := 0) (d := some 25) (v := ?_) rfl rfl (by kernel_rfl) (by kernel_rfl) (by kernel_rfl) (fun _ _ _ h => h) (Or.inl ⟨by rfl, ?_⟩) hHeld ?_
      rotate_left
      · intro w' hSw; (try dsimp only at hSw); go_simp; try with_reducible rfl
      simp only [Act.put, List.setIfInBounds_toArray, List.set_cons_zero, List.set_cons_succ]
      refine takeH (i := 1) (d := some 26) (v := ?_) rfl rfl (by kernel_rfl) (by kernel_rfl) (by kernel_rfl) (fun _ _ _ h => h) (Or.inl ⟨by rfl, ?_⟩) hHeld ?_
      rotate_left
      · intro w' hSw; (try dsimp only at hSw); go_simp; try with_reducible rfl
      simp only [Act.put, List.setIfInBounds_toArray, List.set_cons_zero, List.set_cons_succ]
      refine takeH (i := 2) (d := some 27) (v := ?_) rfl rfl (by kernel_rfl) (by kernel_rfl) (by kernel_rfl) (fun _ _ _ h => h) (Or.inl ⟨by rfl, ?_⟩) hHeld ?_
      rotate_left
      · intro w' hSw; (try dsimp only at hSw); go_simp; try with_reducible rfl
      simp only [Act.put, List.setIfInBounds_toArray, List.set_cons_zero, List.set_cons_succ]
      refine takeH (i := 3) (d := some 28) (v := ?_) rfl rfl (by kernel_rfl) (by kernel_rfl) (by kernel_rfl) (fun _ _ _ h => h) (Or.inl ⟨by rfl, ?_⟩) hHeld ?_
      rotate_left
      · intro w' hSw; (try dsimp only at hSw); go_simp; try with_reducible rfl
      simp only [Act.put, List.setIfInBounds_toArray, List.set_cons_zero, List.set_cons_succ]
      refine takeH (i := 4) (d := some 29) (v := ?_) rfl rfl (by kernel_rfl) (by kernel_rfl) (by kernel_rfl) (fun _ _ _ h => h) (Or.inl ⟨by rfl, ?_⟩) hHeld ?_
      rotate_left
      · intro w' hSw; (try dsimp only at hSw); go_simp; try with_reducible rfl
      simp only [Act.put, List.setIfInBounds_toArray, List.set_cons_zero, List.set_cons_succ]
      refine takeH (i := 5) (d := some 30) (v := ?_) rfl rfl (by kernel_rfl) (by kernel_rfl) (by kernel_rfl) (fun _ _ _ h => h) (Or.inl ⟨by rfl, ?_⟩) hHeld ?_
      rotate_left
      · intro w' hSw; (try dsimp only at hSw); go_simp; try with_reducible rfl
      simp only [Act.put, List.setIfInBounds_toArray, List.set_cons_zero, List.set_cons_succ]
      refine takeH (i := 6) (d := some 31) (v := ?_) rfl rfl (by kernel_rfl) (by kernel_rfl) (by kernel_rfl) (fun _ _ _ h => h) (Or.inl ⟨by rfl, ?_⟩) hHeld ?_
      rotate_left
      · intro w' hSw; (try dsimp only at hSw); go_simp; try with_reducible rfl
      simp only [Act.put, List.setIfInBounds_toArray, List.set_cons_zero, List.set_cons_succ]
      refine takeH (i := 7) (d := some 32) (v := ?_) rfl rfl (by kernel_rfl) (by kernel_rfl) (by kernel_rfl) (fun _ _ _ h => h) (Or.inl ⟨by rfl, ?_⟩) hHeld ?_
      rotate_left
      · intro w' hSw; (try dsimp only at hSw); go_simp; try with_reducible rfl
      simp only [Act.put, List.setIfInBounds_toArray, List.set_cons_zero, List.set_cons_succ]
      refine takeH (i := 8) (d := some 33) (v := ?_) rfl rfl (by kernel_rfl) (by kernel_rfl) (by kernel_rfl) (fun _ _ _ h => h) (Or.inl ⟨by rfl, ?_⟩) hHeld ?_
      rotate_left
      · intro w' hSw; (try dsimp only at hSw); go_simp; try with_reducible rfl
      simp only [Act.put, List.setIfInBounds_toArray, List.set_cons_zero, List.set_cons_succ]
      refine takeH (i := 9) (d := some 34) (v := undef) rfl rfl (by kernel_rfl) (by kernel_rfl) (by kernel_rfl) (fun _ _ _ h => h) (Or.inr ⟨by rfl, rfl⟩) hHeld ?_
      simp only [Act.put, List.setIfInBounds_toArray, List.set_cons_zero, List.set_cons_succ]
      refine takeH (i := 10) (d := some 35) (v := undef) rfl rfl (by kernel_rfl) (by kernel_rfl) (by kernel_rfl) (fun _ _ _ h => h) (Or.inr ⟨by rfl, rfl⟩) hHeld ?_
      simp only [Act.put, List.setIfInBounds_toArray, List.set_cons_zero, List.set_cons_succ]
      refine takeH (i := 11) (d := some 36) (v := undef) rfl rfl (by kernel_rfl) (by kernel_rfl) (by kernel_rfl) (fun _ _ _ h => h) (Or.inr ⟨by rfl, rfl⟩) hHeld ?_
      simp only [Act.put, List.setIfInBounds_toArray, List.set_cons_zero, List.set_cons_succ]
      refine takeH (i := 12) (d := some 37) (v := undef) rfl rfl (by kernel_rfl) (by kernel_rfl) (by kernel_rfl) (fun _ _ _ h => h) (Or.inr ⟨by rfl, rfl⟩) hHeld ?_
      simp only [Act.put, List.setIfInBounds_toArray, List.set_cons_zero, List.set_cons_succ]
      refine takeH (i := 13) (d := some 38) (v := ?_) rfl rfl (by kernel_rfl) (by kernel_rfl) (by kernel_rfl) (fun _ _ _ h => h) (Or.inl ⟨by rfl, ?_⟩) hHeld ?_
      rotate_left
      · intro w' hSw; (try dsimp only at hSw); go_simp; try with_reducible rfl
      simp only [Act.put, List.setIfInBounds_toArray, List.set_cons_zero, List.set_cons_succ]
      refine wpAnyH_ready (rs := [14]) (by kernel_rfl) (by simp) ?_
      refine AllReadyH.cons rfl (fun K hK => ?_) AllReadyH.nil
      go_simp
      refine (HP.out _ _ ?_ E1.out.drew).mono ?_
      · first | (rw [IntKind.wrap_i64]; omega) | omega | rfl
      rintro e w5 ⟨rfl, hE5, hK5⟩
      have E5 := Lib.hid hE5
      have K5 := Lib.hid hK5
      clear hE5 hK5 hHeld
      refine hK.out _ _ ⟨E5.out.cT, E5.out.cP, E5.out.cF⟩ (fun hHeld => ?_)
      clear hK K
      try simp only [Act.put, List.setIfInBounds_toArray, List.set_cons_zero, List.set_cons_succ]
      refine takeH (i := 15) (d := some 11) (v := ?_) rfl rfl (by kernel_rfl) (by kernel_rfl) (by kernel_rfl) (fun _ _ _ h => h) (Or.inl ⟨by rfl, ?_⟩) hHeld ?_
      rotate_left
      · intro w' hSw; (try dsimp only at hSw); go_simp; try with_reducible rfl
      simp only [Act.put, List.setIfInBounds_toArray, List.set_cons_zero, List.set_cons_succ]
      refine wpAnyH_done (by kernel_rfl) ?_ _
      try go_wp2_with fail
      go_meet
      exact ⟨rfl, E5.out, K1.out.drew.trans K5.out (by simp)⟩
    | true =>
      by_cases hBL : B = X.size
      · have hfl : fl = true := by rw [HFl.out]; simp [hBL]
        have e1 : ((B : Int) == (X.size : Int)) = true := beq_iff_eq.2 (by omega)
        subst hfl
        clear HFl d1 d3 d4 d5 HN1 HW1 HMv hBL
        refine wp_region_held_drew (S := fun w' => w'.cell? ⟨tb, 0, none⟩ = some (.string X) ∧ w'.cell? ⟨qb, 0, none⟩ = some (.pointer (some ⟨b, 0, none⟩)) ∧ w'.cell? ⟨fb, 0, none⟩ = some (.bool true)) (by kernel_rfl) ⟨cT, cP, cF⟩ (fun hHeld => ?_)
        refine takeH (i := 0) (d := some 25) (v := ?_) rfl rfl (by kernel_rfl) (by kernel_rfl) (by kernel_rfl) (fun _ _ _ h => h) (Or.inl ⟨by rfl, ?_⟩) hHeld ?_
        rotate_left
        · intro w' hSw; (try dsimp only at hSw); go_simp; try with_reducible rfl
        simp only [Act.put, List.setIfInBounds_toArray, List.set_cons_zero, List.set_cons_succ]
        refine takeH (i := 1) (d := some 26) (v := ?_) rfl rfl (by kernel_rfl) (by kernel_rfl) (by kernel_rfl) (fun _ _ _ h => h) (Or.inl ⟨by rfl, ?_⟩) hHeld ?_
        rotate_left
        · intro w' hSw; (try dsimp only at hSw); go_simp; try with_reducible rfl
        simp only [Act.put, List.setIfInBounds_toArray, List.set_cons_zero, List.set_cons_succ]
        refine takeH (i := 2) (d := some 27) (v := ?_) rfl rfl (by kernel_rfl) (by kernel_rfl) (by kernel_rfl) (fun _ _ _ h => h) (Or.inl ⟨by rfl, ?_⟩) hHeld ?_
        rotate_left
        · intro w' hSw; (try dsimp only at hSw); go_simp; try with_reducible rfl
        simp only [Act.put, List.setIfInBounds_toArray, List.set_cons_zero, List.set_cons_succ]
        refine takeH (i := 3) (d := some 28) (v := ?_) rfl rfl (by kernel_rfl) (by kernel_rfl) (by kernel_rfl) (fun _ _ _ h => h) (Or.inl ⟨by rfl, ?_⟩) hHeld ?_
        rotate_left
        · intro w' hSw; (try dsimp only at hSw); go_simp; try with_reducible rfl
        simp only [Act.put, List.setIfInBounds_toArray, List.set_cons_zero, List.set_cons_succ]
        refine takeH (i := 4) (d := some 29) (v := ?_) rfl rfl (by kernel_rfl) (by kernel_rfl) (by kernel_rfl) (fun _ _ _ h => h) (Or.inl ⟨by rfl, ?_⟩) hHeld ?_
        rotate_left
        · intro w' hSw; (try dsimp only at hSw); go_simp; try with_reducible rfl
        simp only [Act.put, List.setIfInBounds_toArray, List.set_cons_zero, List.set_cons_succ]
        refine takeH (i := 5) (d := some 30) (v := ?_) rfl rfl (by kernel_rfl) (by kernel_rfl) (by kernel_rfl) (fun _ _ _ h => h) (Or.inl ⟨by rfl, ?_⟩) hHeld ?_
        rotate_left
        · intro w' hSw; (try dsimp only at hSw); go_simp; try with_reducible rfl
        simp only [Act.put, List.setIfInBounds_toArray, List.set_cons_zero, List.set_cons_succ]
        refine takeH (i := 6) (d := some 31) (v := ?_) rfl rfl (by kernel_rfl) (by kernel_rfl) (by kernel_rfl) (fun _ _ _ h => h) (Or.inl ⟨by rfl, ?_⟩) hHeld ?_
        rotate_left
        · intro w' hSw; (try dsimp only at hSw); go_simp; try with_reducible rfl
        simp only [Act.put, List.setIfInBounds_toArray, List.set_cons_zero, List.set_cons_succ]
        refine takeH (i := 7) (d := some 32) (v := ?_) rfl rfl (by kernel_rfl) (by kernel_rfl) (by kernel_rfl) (fun _ _ _ h => h) (Or.inl ⟨by rfl, ?_⟩) hHeld ?_
        rotate_left
        · intro w' hSw; (try dsimp only at hSw); go_simp; try with_reducible rfl
        simp only [Act.put, List.setIfInBounds_toArray, List.set_cons_zero, List.set_cons_succ]
        refine takeH (i := 8) (d := some 33) (v := ?_) rfl rfl (by kernel_rfl) (by kernel_rfl) (by kernel_rfl) (fun _ _ _ h => h) (Or.inl ⟨by rfl, ?_⟩) hHeld ?_
        rotate_left
        · intro w' hSw; (try dsimp only at hSw); go_simp; try with_reducible rfl
        simp only [Act.put, List.setIfInBounds_toArray, List.set_cons_zero, List.set_cons_succ]
        refine takeH (i := 9) (d := some 34) (v := ?_) rfl rfl (by kernel_rfl) (by kernel_rfl) (by kernel_rfl) (fun _ _ _ h => h) (Or.inl ⟨by rfl, ?_⟩) hHeld ?_
        rotate_left
        · intro w' hSw; (try dsimp only at hSw); go_simp; try with_reducible rfl
        simp only [Act.put, List.setIfInBounds_toArray, List.set_cons_zero, List.set_cons_succ]
        refine takeH (i := 10) (d := some 35) (v := ?_) rfl rfl (by kernel_rfl) (by kernel_rfl) (by kernel_rfl) (fun _ _ _ h => h) (Or.inl ⟨by rfl, ?_⟩) hHeld ?_
        rotate_left
        · intro w' hSw; (try dsimp only at hSw); go_simp; try with_reducible rfl
        simp only [Act.put, List.setIfInBounds_toArray, List.set_cons_zero, List.set_cons_succ]
        refine takeH (i := 11) (d := some 36) (v := ?_) rfl rfl (by kernel_rfl) (by kernel_rfl) (by kernel_rfl) (fun _ _ _ h => h) (Or.inl ⟨by rfl, ?_⟩) hHeld ?_
        rotate_left
        · intro w' hSw; (try dsimp only at hSw); go_simp; try with_reducible rfl
        simp only [Act.put, List.setIfInBounds_toArray, List.set_cons_zero, List.set_cons_succ]
        refine takeH (i := 12) (d := some 37) (v := ?_) rfl rfl (by kernel_rfl) (by kernel_rfl) (by kernel_rfl) (fun _ _ _ h => h) (Or.inl ⟨by rfl, ?_⟩) hHeld ?_
        rotate_left
        · intro w' hSw; (try dsimp only at hSw); go_simp; try with_reducible rfl
        simp only [Act.put, List.setIfInBounds_toArray, List.set_cons_zero, List.set_cons_succ]
        refine takeH (i := 13) (d := some 38) (v := ?_) rfl rfl (by kernel_rfl) (by kernel_rfl) (by kernel_rfl) (fun _ _ _ h => h) (Or.inl ⟨by rfl, ?_⟩) hHeld ?_
        rotate_left
        · intro w' hSw; (try dsimp only at hSw); go_simp; try with_reducible rfl
        simp only [Act.put, List.setIfInBounds_toArray, List.set_cons_zero, List.set_cons_succ]
        refine wpAnyH_ready (rs := [14]) (by kernel_rfl) (by simp) ?_
        refine AllReadyH.cons rfl (fun K hK => ?_) AllReadyH.nil
        go_simp
        refine (HP.out _ _ ?_ E1.out.drew).mono ?_
        · first | (rw [IntKind.wrap_i64]; omega) | omega | rfl
        rintro e w5 ⟨rfl, hE5, hK5⟩
        have E5 := Lib.hid hE5
        have K5 := Lib.hid hK5
        clear hE5 hK5 hHeld
        refine hK.out _ _ ⟨E5.out.cT, E5.out.cP, E5.out.cF⟩ (fun hHeld => ?_)
        clear hK K
        try simp only [Act.put, List.setIfInBounds_toArray, List.set_cons_zero, List.set_cons_succ]
        refine takeH (i := 15) (d := some 11) (v := ?_) rfl rfl (by kernel_rfl) (by kernel_rfl) (by kernel_rfl) (fun _ _ _ h => h) (Or.inl ⟨by rfl, ?_⟩) hHeld ?_
        rotate_left
        · intro w' hSw; (try dsimp only at hSw); go_simp; try with_reducible rfl
        simp only [Act.put, List.setIfInBounds_toArray, List.set_cons_zero, List.set_cons_succ]
        refine wpAnyH_done (by kernel_rfl) ?_ _
        try go_wp2_with fail
        go_meet
        exact ⟨rfl, E5.out, K1.out.drew.trans K5.out (by simp)⟩
      · have hfl : fl = false := by rw [HFl.out]; simp [hBL]
        have e1 : ((B : Int) == (X.size : Int)) = false := beq_eq_false_iff_ne.2 (by omega)
        have e2 : ¬ (B : Int) = (X.size : Int) := by omega
        subst hfl
        clear HFl d1 d3 d4 d5 HN1 HW1 HMv hBL
        refine wp_region_held_drew (S := fun w' => w'.cell? ⟨tb, 0, none⟩ = some (.string X) ∧ w'.cell? ⟨qb, 0, none⟩ = some (.pointer (some ⟨b, 0, none⟩)) ∧ w'.cell? ⟨fb, 0, none⟩ = some (.bool true)) (by kernel_rfl) ⟨cT, cP, cF⟩ (fun hHeld => ?_)
        refine takeH (i := 0) (d := some 25) (v := ?_) rfl rfl (by kernel_rfl) (by kernel_rfl) (by kernel_rfl) (fun _ _ _ h => h) (Or.inl ⟨by rfl, ?_⟩) hHeld ?_
        rotate_left
        · intro w' hSw; (try dsimp only at hSw); go_simp; try with_reducible rfl
        simp only [Act.put, List.setIfInBounds_toArray, List.set_cons_zero, List.set_cons_succ]
        refine takeH (i := 1) (d := some 26) (v := ?_) rfl rfl (by kernel_rfl) (by kernel_rfl) (by kernel_rfl) (fun _ _ _ h => h) (Or.inl ⟨by rfl, ?_⟩) hHeld ?_
        rotate_left
        · intro w' hSw; (try dsimp only at hSw); go_simp; try with_reducible rfl
        simp only [Act.put, List.setIfInBounds_toArray, List.set_cons_zero, List.set_cons_succ]
        refine takeH (i := 2) (d := some 27) (v := ?_) rfl rfl (by kernel_rfl) (by kernel_rfl) (by kernel_rfl) (fun _ _ _ h => h) (Or.inl ⟨by rfl, ?_⟩) hHeld ?_
        rotate_left
        · intro w' hSw; (try dsimp only at hSw); go_simp; try with_reducible rfl
        simp only [Act.put, List.setIfInBounds_toArray, List.set_cons_zero, List.set_cons_succ]
        refine takeH (i := 3) (d := some 28) (v := ?_) rfl rfl (by kernel_rfl) (by kernel_rfl) (by kernel_rfl) (fun _ _ _ h => h) (Or.inl ⟨by rfl, ?_⟩) hHeld ?_
        rotate_left
        · intro w' hSw; (try dsimp only at hSw); go_simp; try with_reducible rfl
        simp only [Act.put, List.setIfInBounds_toArray, List.set_cons_zero, List.set_cons_succ]
        refine takeH (i := 4) (d := some 29) (v := ?_) rfl rfl (by kernel_rfl) (by kernel_rfl) (by kernel_rfl) (fun _ _ _ h => h) (Or.inl ⟨by rfl, ?_⟩) hHeld ?_
        rotate_left
        · intro w' hSw; (try dsimp only at hSw); go_simp; try with_reducible rfl
        simp only [Act.put, List.setIfInBounds_toArray, List.set_cons_zero, List.set_cons_succ]
        refine takeH (i := 5) (d := some 30) (v := ?_) rfl rfl (by kernel_rfl) (by kernel_rfl) (by kernel_rfl) (fun _ _ _ h => h) (Or.inl ⟨by rfl, ?_⟩) hHeld ?_
        rotate_left
        · intro w' hSw; (try dsimp only at hSw); go_simp; try with_reducible rfl
        simp only [Act.put, List.setIfInBounds_toArray, List.set_cons_zero, List.set_cons_succ]
        refine takeH (i := 6) (d := some 31) (v := ?_) rfl rfl (by kernel_rfl) (by kernel_rfl) (by kernel_rfl) (fun _ _ _ h => h) (Or.inl ⟨by rfl, ?_⟩) hHeld ?_
        rotate_left
        · intro w' hSw; (try dsimp only at hSw); go_simp; try with_reducible rfl
        simp only [Act.put, List.setIfInBounds_toArray, List.set_cons_zero, List.set_cons_succ]
        refine takeH (i := 7) (d := some 32) (v := ?_) rfl rfl (by kernel_rfl) (by kernel_rfl) (by kernel_rfl) (fun _ _ _ h => h) (Or.inl ⟨by rfl, ?_⟩) hHeld ?_
        rotate_left
        · intro w' hSw; (try dsimp only at hSw); go_simp; try with_reducible rfl
        simp only [Act.put, List.setIfInBounds_toArray, List.set_cons_zero, List.set_cons_succ]
        refine takeH (i := 8) (d := some 33) (v := ?_) rfl rfl (by kernel_rfl) (by kernel_rfl) (by kernel_rfl) (fun _ _ _ h => h) (Or.inl ⟨by rfl, ?_⟩) hHeld ?_
        rotate_left
        · intro w' hSw; (try dsimp only at hSw); go_simp; try with_reducible rfl
        simp only [Act.put, List.setIfInBounds_toArray, List.set_cons_zero, List.set_cons_succ]
        refine takeH (i := 9) (d := some 34) (v := ?_) rfl rfl (by kernel_rfl) (by kernel_rfl) (by kernel_rfl) (fun _ _ _ h => h) (Or.inl ⟨by rfl, ?_⟩) hHeld ?_
        rotate_left
        · intro w' hSw; (try dsimp only at hSw); go_simp; try with_reducible rfl
        simp only [Act.put, List.setIfInBounds_toArray, List.set_cons_zero, List.set_cons_succ]
        refine takeH (i := 10) (d := some 35) (v := ?_) rfl rfl (by kernel_rfl) (by kernel_rfl) (by kernel_rfl) (fun _ _ _ h => h) (Or.inl ⟨by rfl, ?_⟩) hHeld ?_
        rotate_left
        · intro w' hSw; (try dsimp only at hSw); go_simp; try with_reducible rfl
        simp only [Act.put, List.setIfInBounds_toArray, List.set_cons_zero, List.set_cons_succ]
        refine takeH (i := 11) (d := some 36) (v := ?_) rfl rfl (by kernel_rfl) (by kernel_rfl) (by kernel_rfl) (fun _ _ _ h => h) (Or.inl ⟨by rfl, ?_⟩) hHeld ?_
        rotate_left
        · intro w' hSw; (try dsimp only at hSw); go_simp; try with_reducible rfl
        simp only [Act.put, List.setIfInBounds_toArray, List.set_cons_zero, List.set_cons_succ]
        refine takeH (i := 12) (d := some 37) (v := ?_) rfl rfl (by kernel_rfl) (by kernel_rfl) (by kernel_rfl) (fun _ _ _ h => h) (Or.inl ⟨by rfl, ?_⟩) hHeld ?_
        rotate_left
        · intro w' hSw; (try dsimp only at hSw); go_simp; try with_reducible rfl
        simp only [Act.put, List.setIfInBounds_toArray, List.set_cons_zero, List.set_cons_succ]
        refine takeH (i := 13) (d := some 38) (v := ?_) rfl rfl (by kernel_rfl) (by kernel_rfl) (by kernel_rfl) (fun _ _ _ h => h) (Or.inl ⟨by rfl, ?_⟩) hHeld ?_
        rotate_left
        · intro w' hSw; (try dsimp only at hSw); go_simp; try with_reducible rfl
        simp only [Act.put, List.setIfInBounds_toArray, List.set_cons_zero, List.set_cons_succ]
        refine wpAnyH_ready (rs := [14]) (by kernel_rfl) (by simp) ?_
        refine AllReadyH.cons rfl (fun K hK => ?_) AllReadyH.nil
        go_simp
        refine (HP.out _ _ ?_ E1.out.drew).mono ?_
        · first | (rw [IntKind.wrap_i64]; omega) | omega | rfl
        rintro e w5 ⟨rfl, hE5, hK5⟩
        have E5 := Lib.hid hE5
        have K5 := Lib.hid hK5
        clear hE5 hK5 hHeld
        refine hK.out _ _ ⟨E5.out.cT, E5.out.cP, E5.out.cF⟩ (fun hHeld => ?_)
        clear hK K
        try simp only [Act.put, List.setIfInBounds_toArray, List.set_cons_zero, List.set_cons_succ]
        refine takeH (i := 15) (d := some 11) (v := ?_) rfl rfl (by kernel_rfl) (by kernel_rfl) (by kernel_rfl) (fun _ _ _ h => h) (Or.inl ⟨by rfl, ?_⟩) hHeld ?_
        rotate_left
        · intro w' hSw; (try dsimp only at hSw); go_simp; try with_reducible rfl
        simp only [Act.put, List.setIfInBounds_toArray, List.set_cons_zero, List.set_cons_succ]
        refine wpAnyH_done (by kernel_rfl) ?_ _
        try go_wp2_with fail
        go_meet
        exact ⟨rfl, E5.out, K1.out.drew.trans K5.out (by simp)⟩
  case rest =>
    obtain ⟨rfl, hE5, hK5⟩ := hcut
    have E5 := Lib.hid hE5
    have K5 := Lib.hid hK5
    clear hE5 hK5 E1 K1 cT cP cF HP HFl hsl
    have cP := E5.out.cP
    have q1 : decide (N1 < N0) = false := decide_eq_false (by omega)
    have q3 : decide (N1 + V1 < N0 + V0) = false := decide_eq_false (by omega)
    have q4 : decide (V1 < 0) = false := decide_eq_false (by omega)
    have q5 : decide (2048 < V1) = false := decide_eq_false (by omega)
    have v2 : V1 ≤ 2048 := by omega
    have v3 : 0 ≤ V1 := by omega
    by_cases h2 : N0 < N1
    · have q2 : decide (N0 < N1) = true := decide_eq_true h2
      obtain rfl : mv = true := by rw [HMv.out, q2]
      clear HMv d1 d3 d4 d5
      go_wp2_with fail
      go_quiet (first | (go_at_call 14; exact Calls.quiet_of_same (HN1.out _ (E5.out.drewN _).own)) | (go_at_call 16; exact Calls.quiet_of (HW1.out _ (E5.out.drewN _).own)))
      go_wp2_with fail
      go_ret
      exact ⟨rfl, E5.out.drewN _, K5.out.drewN _⟩
    · have q2 : decide (N0 < N1) = false := decide_eq_false h2
      obtain rfl : mv = false := by rw [HMv.out, q2]
      clear HMv d1 d3 d4 d5
      go_wp2_with fail
      go_quiet (first | (go_at_call 14; exact Calls.quiet_of_same (HN1.out _ (E5.out.drewN _).own)) | (go_at_call 16; exact Calls.quiet_of (HW1.out _ (E5.out.drewN _).own)))
      go_wp2_with fail
      go_ret
      exact ⟨rfl, E5.out.drewN _, K5.out.drewN _⟩
end
end Go.Proofs.Ythdjdfemckjebaa
