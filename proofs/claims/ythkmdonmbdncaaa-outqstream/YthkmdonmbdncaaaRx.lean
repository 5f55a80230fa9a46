/-
  The document's own queue: At in one, Next.
-/
import Derived.Test.YthkmdonmbdncaaaRt
namespace Go.Proofs.Ythkmdonmbdncaaa
open Go.RowKit
set_option linter.unusedVariables false
set_option linter.unusedSimpArgs false

/-- To take an operation first, the slot that it writes named. -/
theorem takeH' {P : Program} {md : Region.Mode} {ops : Array Oper} {Q : Exit → Act → World → Prop} {S : World → Prop} {i : Nat} {oi : Oper} {d : Option Tmp} {v : Value} {fuel : Nat} {listed : Array Bool} {a : Act} {w : World} (hi : ops[i]? = some oi) (hd : oi.dst = d)
    (hs : Region.noSelect ops = true) (hf : Region.free md ops listed i = true) (hr : (Region.ready md ops listed).contains i = true)
    (hQ : ∀ c a w, Q (.panic c) (a.put d v) w → Q (.panic c) a w) (hy : YieldsIf P ops S oi v a) (hS : S w)
    (h : wpAnyH P md ops Q S fuel (listed.setIfInBounds i true) (a.put d v) w) : wpAnyH P md ops Q S (fuel + 1) listed a w := by
  subst hd
  exact wpAnyH_take hi hs hf hr hQ hy hS h

/-- What goes out from place a on, of all that was ever written. -/
def py (A : ByteArray) (sh : Bool) (a lim mss : Int) : Pc := pz (A.extract (a - 1).toNat (bh ((A.size : Int) + 1) a lim mss - 1).toNat) ((A.size : Int) + 1) sh a lim mss
section
variable {b : Nat} {A : ByteArray} {sh : Bool} {u c s : Int} {w : World}
theorem at_any (a lim mss : Int) (h : UR b A sh u c s w) (hA : A.size ≤ 4503599627370496) (ha0 : 0 ≤ a) (m1 : mss ≤ 9223372036854775807) (p : Pc) (hp : p = py A sh a lim mss) (g : Bool) (hg : g = decide (go? ((A.size : Int) + 1) sh a lim mss)) :
    Calls Try.prog 15 #[.pointer (some ⟨b, 0, none⟩), .int .i64 a, .int .i64 lim, .int .i64 mss] w fun e w' => e = .returned (.tuple #[pvv p, .bool g]) ∧ Below w.heap.size w w' := by
  subst hp hg
  by_cases hg : go? ((A.size : Int) + 1) sh a lim mss
  · rw [decide_eq_true hg]
    unfold py pz
    rw [if_pos hg]
    by_cases h0 : a = 0
    · subst h0
      rw [if_pos rfl]
      exact at_syn lim mss h hA hg
    · rw [if_neg h0]
      exact at_some a lim mss h hA hg (by omega) m1 _ rfl
  · rw [decide_eq_false hg]
    unfold py pz
    rw [if_neg hg]
    exact at_no a lim mss h hA hg
end

/-- Next, half way. -/
structure UX (w W : World) (b : Nat) (A : ByteArray) (sh : Bool) (u c s : Int) (n0 bx : Nat) (p : Pc) : Prop where
  q : UR b A sh u c s W
  p0 : PB n0 pc0 W
  p1 : PB bx p W
  kp : Kp [b] w W
  l0 : b ≠ n0
  l1 : b ≠ bx
  l2 : w.heap.size ≤ n0
section
variable {w W W' : World} {b : Nat} {A : ByteArray} {sh : Bool} {u c s : Int} {n0 bx : Nat} {p : Pc}
theorem UX.drew (h : UX w W b A sh u c s n0 bx p) : UX w W.drew b A sh u c s n0 bx p := ⟨h.q.drew, h.p0.drew, h.p1.drew, h.kp.drew, h.l0, h.l1, h.l2⟩
theorem UX.set3 (h : UX w W b A sh u c s n0 bx p) (x : Int) : UX w (W.setCell ⟨b, 3, none⟩ (.int .i64 x)) b A sh u x s n0 bx p :=
  ⟨h.q.set3 x, h.p0.set_other h.l0 _ _, h.p1.set_other h.l1 _ _, h.kp.setCell (Or.inl (by simp)) _, h.l0, h.l1, h.l2⟩
theorem UX.set4 (h : UX w W b A sh u c s n0 bx p) (x : Int) : UX w (W.setCell ⟨b, 4, none⟩ (.int .i64 x)) b A sh u c x n0 bx p :=
  ⟨h.q.set4 x, h.p0.set_other h.l0 _ _, h.p1.set_other h.l1 _ _, h.kp.setCell (Or.inl (by simp)) _, h.l0, h.l1, h.l2⟩
end
section
variable {b : Nat} {A : ByteArray} {sh : Bool} {u c s : Int} {w : World}
set_option maxHeartbeats 4000000 in
theorem rnext_any (lim mss : Int) (h : UR b A sh u c s w) (hA : A.size ≤ 4503599627370496) (c0 : 0 ≤ c) (c1 : c ≤ 9007199254740994) (m1 : mss ≤ 9223372036854775807) (p : Pc) (hp : p = py A sh c lim mss) (hpb : p.body.size ≤ 4503599627370496) (n : Int) (hn : n = c + plen p) (g : Bool) (hg : g = decide (go? ((A.size : Int) + 1) sh c lim mss)) :
    Calls Try.prog 12 #[.pointer (some ⟨b, 0, none⟩), .int .i64 lim, .int .i64 mss] w fun e w' => e = .returned (.tuple #[pvv p, .bool g]) ∧ UR b A sh u n (max s n) w' ∧ Kp [b] w w' := by
  have HC : Hid (∀ w', UR b A sh u c s w' → Calls Try.prog 15 #[.pointer (some ⟨b, 0, none⟩), .int .i64 c, .int .i64 lim, .int .i64 mss] w' fun e w'' => e = .returned (.tuple #[pvv p, .bool g]) ∧ Below w'.heap.size w' w'') := fun w' h' => at_any c lim mss h' hA c0 m1 p hp g hg
  have HT1 : Hid (∀ w', Calls Try.prog 28 #[.bool p.syn] w' fun e w'' => e = .returned (.int .i64 (if p.syn = true then 1 else 0)) ∧ w'' = w') := fun w' => truth_any _ w'
  have HT2 : Hid (∀ w', Calls Try.prog 28 #[.bool p.fin] w' fun e w'' => e = .returned (.int .i64 (if p.fin = true then 1 else 0)) ∧ w'' = w') := fun w' => truth_any _ w'
  have U1 : Hid (UR b A sh u c s (w.alloc (.cells (pcs pc0) 46))) := h.alloc _
  have P1 : Hid (PB w.heap.size pc0 (w.alloc (.cells (pcs pc0) 46))) := PB.new w pc0
  have K1 : Hid (Kp [b] w (w.alloc (.cells (pcs pc0) 46))) := Kp.ofBelow ((Below.refl _ _).alloc (Nat.le_refl _) _)
  have hb0 : b ≠ w.heap.size := by have := h.lt; omega
  have c3 : (w.alloc (.cells #[.int .i64 0, .bool false, .bool false, .string ⟨#[]⟩] 46)).cell? ⟨b, 3, none⟩ = some (.int .i64 c) := U1.out.c3
  have HN : Hid (n = c + ((p.body.size : Int) + (if p.syn = true then 1 else 0) + (if p.fin = true then 1 else 0))) := hn
  have x0 : (0 : Int) ≤ (if p.syn = true then 1 else 0) := by split <;> omega
  have x1 : (if p.syn = true then 1 else 0 : Int) ≤ 1 := by split <;> omega
  have y0 : (0 : Int) ≤ (if p.fin = true then 1 else 0) := by split <;> omega
  have y1 : (if p.fin = true then 1 else 0 : Int) ≤ 1 := by split <;> omega
  clear h hp hg hn
  generalize (if p.syn = true then 1 else 0 : Int) = x at *
  generalize (if p.fin = true then 1 else 0 : Int) = y at *
  have HW1 : Hid (IntKind.i64.wrap ((p.body.size : Int) + x) = (p.body.size : Int) + x) := by show _ = _; rw [IntKind.wrap_i64]; omega
  have HW2 : Hid (IntKind.i64.wrap ((p.body.size : Int) + x + y) = (p.body.size : Int) + x + y) := by show _ = _; rw [IntKind.wrap_i64]; omega
  have HW3 : Hid (IntKind.i64.wrap (c + ((p.body.size : Int) + x + y)) = c + ((p.body.size : Int) + x + y)) := by show _ = _; rw [IntKind.wrap_i64]; omega
  go_enter Try.func12, Try.ntmps12
  go_wp2_with fail
  refine (HC.out _ U1.out).mono ?_; rintro e w2 ⟨rfl, hb2⟩
  have X3 : Hid (UX w (w2.alloc (.cells (pcs p) 46)) b A sh u c s w.heap.size w2.heap.size p) := ⟨(U1.out.keep hb2).alloc _, (P1.out.keep hb2).alloc _, PB.new w2 p, (K1.out.then hb2).then ((Below.refl _ _).alloc (Nat.le_refl _) _), hb0, by have := (U1.out.keep hb2).lt; omega, Nat.le_refl _⟩
  clear U1 P1 K1 hb2 c3 HC
  go_wp2_with (refine wpList_store_last rfl 46 _ _ rfl w2 _ (pcs p) rfl rfl rfl info46 rfl (pcs_one p) ?_)
  generalize w2.heap.size = bx at *
  generalize w2.alloc (.cells (pcs p) 46) = w3 at *
  have d3 : w3.drew.cell? ⟨b, 3, none⟩ = some (.int .i64 c) := X3.out.drew.q.c3
  have f3 : w3.drew.frozen? ⟨b, 3, none⟩ = false := X3.out.drew.q.free 3
  have q1 : w3.drew.cell? ⟨bx, 1, none⟩ = some (.bool p.syn) := X3.out.drew.p1.c1
  have q2 : w3.drew.cell? ⟨bx, 2, none⟩ = some (.bool p.fin) := X3.out.drew.p1.c2
  have q3 : w3.drew.cell? ⟨bx, 3, none⟩ = some (.string p.body) := X3.out.drew.p1.c3
  have X4 : Hid (UX w ((w3.setCell ⟨b, 3, none⟩ (.int .i64 (IntKind.i64.wrap (c + IntKind.i64.wrap (IntKind.i64.wrap ((p.body.size : Int) + x) + y))))).drew) b A sh u n s w.heap.size bx p) := by
    have := (X3.out.set3 n).drew
    rw [HN.out] at this
    show UX _ _ _ _ _ _ _ _ _ _ _
    rw [HW1.out, HW2.out, HW3.out, HN.out]
    exact this
  go_cut [] from 21 to 38 (fun W => UX w W b A sh u n s w.heap.size bx p)
  case first =>
    refine wp_region_held_drew (S := (fun w' => w'.cell? ⟨bx, 1, none⟩ = some (.bool p.syn) ∧ w'.cell? ⟨bx, 2, none⟩ = some (.bool p.fin) ∧ w'.cell? ⟨bx, 3, none⟩ = some (.string p.body))) (by kernel_rfl) ⟨q1, q2, q3⟩ (fun hHeld => ?_)
    refine takeH' (i := 0) (d := some 21) (v := ?_) rfl rfl (by kernel_rfl) (by kernel_rfl) (by kernel_rfl) (fun _ _ _ h => h) (Or.inl ⟨by rfl, ?_⟩) hHeld ?_
    rotate_left
    · intro w' hSw; (try dsimp only at hSw); go_simp; try with_reducible rfl
    simp only [Act.put, List.setIfInBounds_toArray, List.set_cons_zero, List.set_cons_succ]
    refine takeH' (i := 1) (d := some 22) (v := ?_) rfl rfl (by kernel_rfl) (by kernel_rfl) (by kernel_rfl) (fun _ _ _ h => h) (Or.inl ⟨by rfl, ?_⟩) hHeld ?_
    rotate_left
    · intro w' hSw; (try dsimp only at hSw); go_simp; try with_reducible rfl
    simp only [Act.put, List.setIfInBounds_toArray, List.set_cons_zero, List.set_cons_succ]
    refine takeH' (i := 2) (d := some 23) (v := ?_) rfl rfl (by kernel_rfl) (by kernel_rfl) (by kernel_rfl) (fun _ _ _ h => h) (Or.inl ⟨by rfl, ?_⟩) hHeld ?_
    rotate_left
    · intro w' hSw; (try dsimp only at hSw); go_simp; try with_reducible rfl
    simp only [Act.put, List.setIfInBounds_toArray, List.set_cons_zero, List.set_cons_succ]
    refine takeH' (i := 4) (d := some 25) (v := ?_) rfl rfl (by kernel_rfl) (by kernel_rfl) (by kernel_rfl) (fun _ _ _ h => h) (Or.inl ⟨by rfl, ?_⟩) hHeld ?_
    rotate_left
    · intro w' hSw; (try dsimp only at hSw); go_simp; try with_reducible rfl
    simp only [Act.put, List.setIfInBounds_toArray, List.set_cons_zero, List.set_cons_succ]
    refine takeH' (i := 5) (d := some 26) (v := ?_) rfl rfl (by kernel_rfl) (by kernel_rfl) (by kernel_rfl) (fun _ _ _ h => h) (Or.inl ⟨by rfl, ?_⟩) hHeld ?_
    rotate_left
    · intro w' hSw; (try dsimp only at hSw); go_simp; try with_reducible rfl
    simp only [Act.put, List.setIfInBounds_toArray, List.set_cons_zero, List.set_cons_succ]
    refine takeH' (i := 6) (d := some 27) (v := ?_) rfl rfl (by kernel_rfl) (by kernel_rfl) (by kernel_rfl) (fun _ _ _ h => h) (Or.inl ⟨by rfl, ?_⟩) hHeld ?_
    rotate_left
    · intro w' hSw; (try dsimp only at hSw); go_simp; try with_reducible rfl
    simp only [Act.put, List.setIfInBounds_toArray, List.set_cons_zero, List.set_cons_succ]
    refine takeH' (i := 7) (d := some 28) (v := ?_) rfl rfl (by kernel_rfl) (by kernel_rfl) (by kernel_rfl) (fun _ _ _ h => h) (Or.inl ⟨by rfl, ?_⟩) hHeld ?_
    rotate_left
    · intro w' hSw; (try dsimp only at hSw); go_simp; try with_reducible rfl
    simp only [Act.put, List.setIfInBounds_toArray, List.set_cons_zero, List.set_cons_succ]
    refine takeH' (i := 8) (d := some 29) (v := ?_) rfl rfl (by kernel_rfl) (by kernel_rfl) (by kernel_rfl) (fun _ _ _ h => h) (Or.inl ⟨by rfl, ?_⟩) hHeld ?_
    rotate_left
    · intro w' hSw; (try dsimp only at hSw); go_simp; try with_reducible rfl
    simp only [Act.put, List.setIfInBounds_toArray, List.set_cons_zero, List.set_cons_succ]
    refine takeH' (i := 11) (d := some 32) (v := ?_) rfl rfl (by kernel_rfl) (by kernel_rfl) (by kernel_rfl) (fun _ _ _ h => h) (Or.inl ⟨by rfl, ?_⟩) hHeld ?_
    rotate_left
    · intro w' hSw; (try dsimp only at hSw); go_simp; try with_reducible rfl
    simp only [Act.put, List.setIfInBounds_toArray, List.set_cons_zero, List.set_cons_succ]
    refine takeH' (i := 12) (d := some 33) (v := ?_) rfl rfl (by kernel_rfl) (by kernel_rfl) (by kernel_rfl) (fun _ _ _ h => h) (Or.inl ⟨by rfl, ?_⟩) hHeld ?_
    rotate_left
    · intro w' hSw; (try dsimp only at hSw); go_simp; try with_reducible rfl
    simp only [Act.put, List.setIfInBounds_toArray, List.set_cons_zero, List.set_cons_succ]
    refine wpAnyH_ready (rs := [3, 9]) (by kernel_rfl) (by simp) ?_
    refine AllReadyH.cons rfl (fun K hK => ?_) (AllReadyH.cons rfl (fun K hK => ?_) AllReadyH.nil)
    · go_simp
      clear hHeld
      refine hK.out _ _ ⟨q1, q2, q3⟩ (fun hHeld => ?_)
      clear hK K
      try simp only [Act.put, List.setIfInBounds_toArray, List.set_cons_zero, List.set_cons_succ]
      refine wpAnyH_ready (rs := [9]) (by kernel_rfl) (by simp) ?_
      refine AllReadyH.cons rfl (fun K hK => ?_) AllReadyH.nil
      go_simp
      refine (HT1.out _).mono ?_; rintro e w4 ⟨rfl, rfl⟩
      clear hHeld
      refine hK.out _ _ ⟨q1, q2, q3⟩ (fun hHeld => ?_)
      clear hK K
      try simp only [Act.put, List.setIfInBounds_toArray, List.set_cons_zero, List.set_cons_succ]
      refine takeH' (i := 10) (d := some 31) (v := ?_) rfl rfl (by kernel_rfl) (by kernel_rfl) (by kernel_rfl) (fun _ _ _ h => h) (Or.inl ⟨by rfl, ?_⟩) hHeld ?_
      rotate_left
      · intro w' hSw; (try dsimp only at hSw); go_simp; try with_reducible rfl
      simp only [Act.put, List.setIfInBounds_toArray, List.set_cons_zero, List.set_cons_succ]
      refine wpAnyH_ready (rs := [13]) (by kernel_rfl) (by simp) ?_
      refine AllReadyH.cons rfl (fun K hK => ?_) AllReadyH.nil
      go_simp
      refine (HT2.out _).mono ?_; rintro e w4 ⟨rfl, rfl⟩
      clear hHeld
      refine hK.out _ _ ⟨q1, q2, q3⟩ (fun hHeld => ?_)
      clear hK K
      try simp only [Act.put, List.setIfInBounds_toArray, List.set_cons_zero, List.set_cons_succ]
      refine takeH' (i := 14) (d := some 35) (v := ?_) rfl rfl (by kernel_rfl) (by kernel_rfl) (by kernel_rfl) (fun _ _ _ h => h) (Or.inl ⟨by rfl, ?_⟩) hHeld ?_
      rotate_left
      · intro w' hSw; (try dsimp only at hSw); go_simp; try with_reducible rfl
      simp only [Act.put, List.setIfInBounds_toArray, List.set_cons_zero, List.set_cons_succ]
      refine takeH' (i := 15) (d := some 36) (v := ?_) rfl rfl (by kernel_rfl) (by kernel_rfl) (by kernel_rfl) (fun _ _ _ h => h) (Or.inl ⟨by rfl, ?_⟩) hHeld ?_
      rotate_left
      · intro w' hSw; (try dsimp only at hSw); go_simp; try with_reducible rfl
      simp only [Act.put, List.setIfInBounds_toArray, List.set_cons_zero, List.set_cons_succ]
      refine takeH' (i := 16) (d := some 37) (v := ?_) rfl rfl (by kernel_rfl) (by kernel_rfl) (by kernel_rfl) (fun _ _ _ h => h) (Or.inl ⟨by rfl, ?_⟩) hHeld ?_
      rotate_left
      · intro w' hSw; (try dsimp only at hSw); go_simp; try with_reducible rfl
      simp only [Act.put, List.setIfInBounds_toArray, List.set_cons_zero, List.set_cons_succ]
      refine takeH' (i := 17) (d := some 38) (v := ?_) rfl rfl (by kernel_rfl) (by kernel_rfl) (by kernel_rfl) (fun _ _ _ h => h) (Or.inl ⟨by rfl, ?_⟩) hHeld ?_
      rotate_left
      · intro w' hSw; (try dsimp only at hSw); go_simp; try with_reducible rfl
      simp only [Act.put, List.setIfInBounds_toArray, List.set_cons_zero, List.set_cons_succ]
      refine wpAnyH_ready (rs := [18]) (by kernel_rfl) (by simp) ?_
      refine AllReadyH.cons rfl (fun K hK => ?_) AllReadyH.nil
      go_simp
      skip
      have X4' := X4.out
      clear hHeld
      refine hK.out _ _ ⟨X4'.p1.c1, X4'.p1.c2, X4'.p1.c3⟩ (fun hHeld => ?_)
      clear hK K
      try simp only [Act.put, List.setIfInBounds_toArray, List.set_cons_zero, List.set_cons_succ]
      refine wpAnyH_done (by kernel_rfl) ?_ _
      try go_wp2_with fail
      go_meet
      exact X4.out
    · go_simp
      refine (HT1.out _).mono ?_; rintro e w4 ⟨rfl, rfl⟩
      clear hHeld
      refine hK.out _ _ ⟨q1, q2, q3⟩ (fun hHeld => ?_)
      clear hK K
      try simp only [Act.put, List.setIfInBounds_toArray, List.set_cons_zero, List.set_cons_succ]
      refine takeH' (i := 10) (d := some 31) (v := ?_) rfl rfl (by kernel_rfl) (by kernel_rfl) (by kernel_rfl) (fun _ _ _ h => h) (Or.inl ⟨by rfl, ?_⟩) hHeld ?_
      rotate_left
      · intro w' hSw; (try dsimp only at hSw); go_simp; try with_reducible rfl
      simp only [Act.put, List.setIfInBounds_toArray, List.set_cons_zero, List.set_cons_succ]
      refine wpAnyH_ready (rs := [3, 13]) (by kernel_rfl) (by simp) ?_
      refine AllReadyH.cons rfl (fun K hK => ?_) (AllReadyH.cons rfl (fun K hK => ?_) AllReadyH.nil)
      · go_simp
        clear hHeld
        refine hK.out _ _ ⟨q1, q2, q3⟩ (fun hHeld => ?_)
        clear hK K
        try simp only [Act.put, List.setIfInBounds_toArray, List.set_cons_zero, List.set_cons_succ]
        refine wpAnyH_ready (rs := [13]) (by kernel_rfl) (by simp) ?_
        refine AllReadyH.cons rfl (fun K hK => ?_) AllReadyH.nil
        go_simp
        refine (HT2.out _).mono ?_; rintro e w4 ⟨rfl, rfl⟩
        clear hHeld
        refine hK.out _ _ ⟨q1, q2, q3⟩ (fun hHeld => ?_)
        clear hK K
        try simp only [Act.put, List.setIfInBounds_toArray, List.set_cons_zero, List.set_cons_succ]
        refine takeH' (i := 14) (d := some 35) (v := ?_) rfl rfl (by kernel_rfl) (by kernel_rfl) (by kernel_rfl) (fun _ _ _ h => h) (Or.inl ⟨by rfl, ?_⟩) hHeld ?_
        rotate_left
        · intro w' hSw; (try dsimp only at hSw); go_simp; try with_reducible rfl
        simp only [Act.put, List.setIfInBounds_toArray, List.set_cons_zero, List.set_cons_succ]
        refine takeH' (i := 15) (d := some 36) (v := ?_) rfl rfl (by kernel_rfl) (by kernel_rfl) (by kernel_rfl) (fun _ _ _ h => h) (Or.inl ⟨by rfl, ?_⟩) hHeld ?_
        rotate_left
        · intro w' hSw; (try dsimp only at hSw); go_simp; try with_reducible rfl
        simp only [Act.put, List.setIfInBounds_toArray, List.set_cons_zero, List.set_cons_succ]
        refine takeH' (i := 16) (d := some 37) (v := ?_) rfl rfl (by kernel_rfl) (by kernel_rfl) (by kernel_rfl) (fun _ _ _ h => h) (Or.inl ⟨by rfl, ?_⟩) hHeld ?_
        rotate_left
        · intro w' hSw; (try dsimp only at hSw); go_simp; try with_reducible rfl
        simp only [Act.put, List.setIfInBounds_toArray, List.set_cons_zero, List.set_cons_succ]
        refine takeH' (i := 17) (d := some 38) (v := ?_) rfl rfl (by kernel_rfl) (by kernel_rfl) (by kernel_rfl) (fun _ _ _ h => h) (Or.inl ⟨by rfl, ?_⟩) hHeld ?_
        rotate_left
        · intro w' hSw; (try dsimp only at hSw); go_simp; try with_reducible rfl
        simp only [Act.put, List.setIfInBounds_toArray, List.set_cons_zero, List.set_cons_succ]
        refine wpAnyH_ready (rs := [18]) (by kernel_rfl) (by simp) ?_
        refine AllReadyH.cons rfl (fun K hK => ?_) AllReadyH.nil
        go_simp
        skip
        have X4' := X4.out
        clear hHeld
        refine hK.out _ _ ⟨X4'.p1.c1, X4'.p1.c2, X4'.p1.c3⟩ (fun hHeld => ?_)
        clear hK K
        try simp only [Act.put, List.setIfInBounds_toArray, List.set_cons_zero, List.set_cons_succ]
        refine wpAnyH_done (by kernel_rfl) ?_ _
        try go_wp2_with fail
        go_meet
        exact X4.out
      · go_simp
        refine (HT2.out _).mono ?_; rintro e w4 ⟨rfl, rfl⟩
        clear hHeld
        refine hK.out _ _ ⟨q1, q2, q3⟩ (fun hHeld => ?_)
        clear hK K
        try simp only [Act.put, List.setIfInBounds_toArray, List.set_cons_zero, List.set_cons_succ]
        refine takeH' (i := 14) (d := some 35) (v := ?_) rfl rfl (by kernel_rfl) (by kernel_rfl) (by kernel_rfl) (fun _ _ _ h => h) (Or.inl ⟨by rfl, ?_⟩) hHeld ?_
        rotate_left
        · intro w' hSw; (try dsimp only at hSw); go_simp; try with_reducible rfl
        simp only [Act.put, List.setIfInBounds_toArray, List.set_cons_zero, List.set_cons_succ]
        refine wpAnyH_ready (rs := [3]) (by kernel_rfl) (by simp) ?_
        refine AllReadyH.cons rfl (fun K hK => ?_) AllReadyH.nil
        go_simp
        clear hHeld
        refine hK.out _ _ ⟨q1, q2, q3⟩ (fun hHeld => ?_)
        clear hK K
        try simp only [Act.put, List.setIfInBounds_toArray, List.set_cons_zero, List.set_cons_succ]
        refine takeH' (i := 15) (d := some 36) (v := ?_) rfl rfl (by kernel_rfl) (by kernel_rfl) (by kernel_rfl) (fun _ _ _ h => h) (Or.inl ⟨by rfl, ?_⟩) hHeld ?_
        rotate_left
        · intro w' hSw; (try dsimp only at hSw); go_simp; try with_reducible rfl
        simp only [Act.put, List.setIfInBounds_toArray, List.set_cons_zero, List.set_cons_succ]
        refine takeH' (i := 16) (d := some 37) (v := ?_) rfl rfl (by kernel_rfl) (by kernel_rfl) (by kernel_rfl) (fun _ _ _ h => h) (Or.inl ⟨by rfl, ?_⟩) hHeld ?_
        rotate_left
        · intro w' hSw; (try dsimp only at hSw); go_simp; try with_reducible rfl
        simp only [Act.put, List.setIfInBounds_toArray, List.set_cons_zero, List.set_cons_succ]
        refine takeH' (i := 17) (d := some 38) (v := ?_) rfl rfl (by kernel_rfl) (by kernel_rfl) (by kernel_rfl) (fun _ _ _ h => h) (Or.inl ⟨by rfl, ?_⟩) hHeld ?_
        rotate_left
        · intro w' hSw; (try dsimp only at hSw); go_simp; try with_reducible rfl
        simp only [Act.put, List.setIfInBounds_toArray, List.set_cons_zero, List.set_cons_succ]
        refine wpAnyH_ready (rs := [18]) (by kernel_rfl) (by simp) ?_
        refine AllReadyH.cons rfl (fun K hK => ?_) AllReadyH.nil
        go_simp
        have X4' := X4.out
        clear hHeld
        refine hK.out _ _ ⟨X4'.p1.c1, X4'.p1.c2, X4'.p1.c3⟩ (fun hHeld => ?_)
        clear hK K
        try simp only [Act.put, List.setIfInBounds_toArray, List.set_cons_zero, List.set_cons_succ]
        refine wpAnyH_done (by kernel_rfl) ?_ _
        try go_wp2_with fail
        go_meet
        exact X4.out
  have X5 := Lib.hid hcut
  clear hcut X3 X4 d3 f3 q1 q2 q3 HT1 HT2
  have e3 : wc.drew.cell? ⟨b, 3, none⟩ = some (.int .i64 n) := X5.out.q.c3
  have e4 : wc.drew.cell? ⟨b, 4, none⟩ = some (.int .i64 s) := X5.out.q.c4
  have f4 : wc.drew.frozen? ⟨b, 4, none⟩ = false := X5.out.q.free 4
  go_wp2_with fail
  go_cut [] from 39 to 50 (fun W => UX w W b A sh u n (max s n) w.heap.size bx p)
  case first =>
    go_region
    all_goals
      try go_wp2_with fail
      go_meet
      exact X5.out.drew.set4 _
  have X6 := Lib.hid hcut
  clear hcut X5 e3 e4 f4
  have HU := Lib.hid Try.underlying46
  go_wp2_with (first | (refine wpList_load_mid rfl _ _ rfl _ _ rfl (pcl p) _ X6.out.p1.range HU.out rfl info46 ?_) | (refine wpList_store_mid rfl _ _ _ rfl _ _ (pcs p) rfl rfl X6.out.p0.there info46 (pcs_one _) ?_))
  exact bodyPost_ret (v := .tuple #[pvv p, .bool g]) (by simp [results, Try.results12, Act.put, asAddr, told _ w.heap.size pc0 p X6.out.p0]) rfl ⟨rfl, X6.out.q.kp (bs := [w.heap.size]) ((Kp.refl _ _).setCells (Or.inl (by simp)) _ _) (by simpa using hb0), X6.out.kp.setCells (Or.inr (Nat.le_refl _)) _ _⟩
end
end Go.Proofs.Ythkmdonmbdncaaa
