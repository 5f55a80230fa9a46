/-
  The walk of InqSays: the queue and the document's own queue over one memory.
-/
import Derived.Test.YthdjdfemckjebaaRp
import Derived.Test.YthdjdfemckjebaaRr
import Derived.Test.YthdjdfemckjebaaOf
import Derived.Test.YthdjdfemckjebaaTx
import Derived.Deep.CutBlock
namespace Go.Proofs.Ythdjdfemckjebaa
open Go.RowKit
set_option linter.unusedVariables false
set_option linter.unusedSimpArgs false

theorem takeH {P : Program} {md : Region.Mode} {ops : Array Oper} {Q : Exit → Act → World → Prop} {S : World → Prop} {i : Nat} {oi : Oper} {d : Option Tmp} {v : Value} {fuel : Nat} {listed : Array Bool} {a : Act} {w : World} (hi : ops[i]? = some oi) (hd : oi.dst = d)
    (hs : Region.noSelect ops = true) (hf : Region.free md ops listed i = true) (hr : (Region.ready md ops listed).contains i = true)
    (hQ : ∀ c a w, Q (.panic c) (a.put d v) w → Q (.panic c) a w) (hy : YieldsIf P ops S oi v a) (hS : S w)
    (h : wpAnyH P md ops Q S fuel (listed.setIfInBounds i true) (a.put d v) w) : wpAnyH P md ops Q S (fuel + 1) listed a w := by
  subst hd
  exact wpAnyH_take hi hs hf hr hQ hy hS h

/-- Both queues, new since w. -/
structure Two (w W : World) (b ub mb : Nat) (t u : St) (m : Nat) : Prop where
  own : OT b t W
  doc : UT ub mb u m W
  ok : Ok t
  dok : Ok u
  be : Below w.heap.size w W
  lo : w.heap.size ≤ b
  ulo : w.heap.size ≤ ub
  mlo : w.heap.size ≤ mb
section
variable {w W W' : World} {b ub mb : Nat} {t t' u : St} {m m' : Nat}
theorem OT.blk (h : OT b t W) : ∃ a, W.heap[b]? = some (.cells a 56 (0, 0)) := by obtain ⟨q, ⟨a, ha, _⟩, _⟩ := h; exact ⟨a, ha⟩
theorem UM.mapb {c : Nat → Option UInt8} {f g : Nat} (h : UM ub mb c f g m W) : ∃ es cl, W.heap[mb]? = some (.map es cl) := by obtain ⟨D, ⟨es, cl, h, _⟩, _⟩ := h.own; exact ⟨es, cl, h⟩
theorem Two.ne1 (h : Two w W b ub mb t u m) : b ≠ ub := fun e => by
  obtain ⟨a, ha⟩ := h.own.blk
  have := h.doc.blk
  rw [← e, ha] at this
  injection this with this
  injection this with _ this
  exact absurd this (by decide)
theorem Two.ne2 (h : Two w W b ub mb t u m) : b ≠ mb := fun e => by
  obtain ⟨a, ha⟩ := h.own.blk
  obtain ⟨es, cl, hm⟩ := h.doc.mapb
  rw [← e, ha] at hm; cases hm
theorem Two.on (h : Two w W b ub mb t u m) (hb : Below W.heap.size W W') : Two w W' b ub mb t u m := ⟨h.own.keep hb, UM.keep h.doc hb, h.ok, h.dok, h.be.trans (hb.mono h.be.size), h.lo, h.ulo, h.mlo⟩
theorem Two.drewN (h : Two w W b ub mb t u m) (n : Nat) : Two w (W.drewN n) b ub mb t u m := h.on (below_drewN W n)
theorem Two.drew (h : Two w W b ub mb t u m) : Two w W.drew b ub mb t u m := h.on ((Below.refl _ _).drew)
theorem Two.alloc (h : Two w W b ub mb t u m) (o : Obj) : Two w (W.alloc o) b ub mb t u m := h.on ((Below.refl _ _).alloc (Nat.le_refl _) _)
theorem Two.mono (h : Two w W b ub mb t u m) (hm : m ≤ m') : Two w W b ub mb t u m' := ⟨h.own, UM.mono h.doc hm, h.ok, h.dok, h.be, h.lo, h.ulo, h.mlo⟩
theorem Two.put (h : Two w W b ub mb t u m) (ht : OT b t' W') (ok : Ok t') (hk : Kp [b] W W') : Two w W' b ub mb t' u m :=
  ⟨ht, UM.kp h.doc hk (by simpa using fun e => h.ne1 e.symm) (by simpa using fun e => h.ne2 e.symm), ok, h.dok, h.be.trans (hk.below h.be.size (by simpa using h.lo)), h.lo, h.ulo, h.mlo⟩
theorem Two.dput (h : Two w W b ub mb t u m) (ht : UT ub mb t' m' W') (ok : Ok t') (hk : Kp [mb, ub] W W') : Two w W' b ub mb t t' m' :=
  ⟨h.own.kp hk (by simpa using ⟨h.ne2, h.ne1⟩), ht, h.ok, ok, h.be.trans (hk.below h.be.size (by simpa using ⟨h.mlo, h.ulo⟩)), h.lo, h.ulo, h.mlo⟩
theorem SB.kq {bx : Nat} {cs : List Value} (hs : SB bx cs W) (h : OT b t W) (hk : Kp [b] W W') : SB bx cs W' :=
  (hk.block _ hs.lt (by
    rw [List.mem_singleton]; rintro rfl
    obtain ⟨a, ha⟩ := h.blk
    rw [hs] at ha
    injection ha with ha
    injection ha with _ ha
    exact absurd ha (by decide))).trans hs
theorem SB.ku {bx : Nat} {cs : List Value} {c : Nat → Option UInt8} {f g : Nat} (hs : SB bx cs W) (h : UM ub mb c f g m W) (hk : Kp [mb, ub] W W') : SB bx cs W' :=
  (hk.block _ hs.lt (by
    simp only [List.mem_cons, List.not_mem_nil, or_false]
    rintro (rfl | rfl)
    · obtain ⟨es, cl, hm⟩ := h.mapb
      rw [hs] at hm; cases hm
    · have := h.blk
      rw [hs] at this
      injection this with this
      injection this with _ this
      exact absurd this (by decide))).trans hs
end
theorem put_f (t : St) (q : Int) (x : ByteArray) (fin : Bool) : (put t q x fin).f = t.f := by unfold put; split <;> rfl
theorem rd_f {t : St} (ok : Ok t) (q : Int) : (rd t q).f ≤ t.f + 2048 := by have := rk_2048 ok q; show t.f + _ ≤ _; omega

set_option maxHeartbeats 16000000 in
set_option maxRecDepth 100000 in
theorem says_walk (o : Option Addr) (b off len cap : Nat) (C : Nat → List Value) (S : Nat → Stp) (w : World) (hb : 0 < len → o = some ⟨b, off, none⟩ ∧ b < w.heap.size) (hS : StepsAt w b off len C S) (hlen : len * 256 ≤ 140737488355328)
    (htx : ∀ i, i < len → (S i).txt.size ≤ 140737488355328) :
    Calls Try.prog 3 #[.slice o len cap] w fun e w' => e = .returned (.bool true) ∧ Below w.heap.size w w' := by
  have HN : Hid (∀ w', Calls Try.prog 7 #[] w' fun e w'' => e = .returned (.pointer (some ⟨w'.heap.size, 0, none⟩)) ∧ OT w'.heap.size st0 w'' ∧ Below w'.heap.size w' w'') := new_any
  have HR : Hid (∀ w', Calls Try.prog 8 #[] w' fun e w'' => e = .returned (.pointer (some ⟨w'.heap.size + 1, 0, none⟩)) ∧ UM (w'.heap.size + 1) w'.heap.size st0.c 1 0 0 w'' ∧ Below w'.heap.size w' w'') := rnew_any
  have HS0 := Lib.hid hS
  have HB0 := Lib.hid hb
  have HT0 := Lib.hid htx
  clear hb hS htx
  go_enter Try.func3, Try.ntmps3
  go_wp2_with fail
  refine (HN.out _).mono ?_; rintro e w1 ⟨rfl, hT1, hb1⟩
  have T1 := Lib.hid hT1
  have B1 := Lib.hid hb1
  clear hT1 hb1
  go_wp2_with fail
  refine (HR.out _).mono ?_; rintro e w2 ⟨rfl, hU2, hb2⟩
  have L2 : Hid (Two w w2 w.heap.size (w1.heap.size + 1) w1.heap.size st0 st0 0) :=
    ⟨T1.out.keep hb2, hU2, st0_ok, st0_ok, B1.out.trans (hb2.mono B1.out.size), Nat.le_refl _, by have := B1.out.size; omega, B1.out.size⟩
  clear hU2 hb2 T1 B1 HN HR
  go_wp2_with fail
  generalize w1.heap.size = mb at *
  go_loopw [13] (fun i W => ∃ (k : Nat) (t : St), k ≤ len ∧ i = .int .i64 k ∧ t.f ≤ 2048 * k + 1 ∧ Two w W w.heap.size (mb + 1) mb t t (2048 * k)) (fun i _ => len - (intOf i).toNat)
  case atStart => exact ⟨0, st0, Nat.zero_le _, rfl, Nat.le_refl _, L2.out⟩
  case round =>
    obtain ⟨k, t, hk, rfl, hf, hO⟩ := hrel
    have L := Lib.hid hO
    clear hO L2
    by_cases hlt : k < len
    · obtain ⟨ho, hbb⟩ := HB0.out (by omega)
      subst ho
      obtain ⟨hr', hcs⟩ := HS0.out k hlt
      have F := Lib.hid (step_f HS0.out hlt hbb L.out.be)
      have HOf : Hid (∀ w', Calls Try.prog 9 #[.agg (C k).toArray, .int .i64 4] w' fun e w'' => e = .returned (.int .i64 ((S k).kind % 4)) ∧ Below w'.heap.size w' w'') := fun w' => of_any (C k) (S k) 4 w' hcs (by omega) (by omega)
      have HS : Hid (∀ {g : Nat} W, SB g (C k) W → W.cell? ⟨g, 1, none⟩ = some (.int .i64 (S k).num) ∧ W.cell? ⟨g, 3, none⟩ = some (.bool (S k).on) ∧ W.cell? ⟨g, 4, none⟩ = some (.string (S k).txt)) := fun W h => ⟨h.c1 hcs, h.c3 hcs, h.c4 hcs⟩
      have L4 := Lib.hid (L.out.alloc (.cells (C k).toArray 41))
      have B4 := Lib.hid F.out.blk
      have hkd0 := Int.emod_nonneg (S k).kind (show (4 : Int) ≠ 0 by omega)
      have hkd1 := Int.emod_lt_of_pos (S k).kind (show (0 : Int) < 4 by omega)
      have hn1 := hcs.n1
      have hn2 := hcs.n2
      have hxz : (S k).txt.size ≤ 1152921504606846976 := by have := HT0.out k hlt; omega
      have hf2 : t.f ≤ 1152921504606846976 := by omega
      have hm2 : 2048 * k ≤ 1152921504606846976 := by omega
      clear hcs hr' hbb L
      generalize C k = cs at *
      generalize (S k).num = num at *
      generalize (S k).on = on at *
      generalize (S k).txt = x at *
      generalize (S k).kind % 4 = kd at *
      go_upto_if 19 with (first | (refine wpList_load_mid rfl 41 _ rfl b (off + k * 45) rfl cs _ F.out.rr Try.underlying41 rfl F.out.hi ?_) | (refine wpList_store_last rfl 41 _ _ rfl wr _ cs.toArray rfl rfl rfl F.out.hi' F.out.h45 F.out.one ?_) | (refine wpList_load_mid rfl 41 _ rfl wr.heap.size 0 rfl cs _ B4.out.range Try.underlying41 rfl F.out.hi ?_) | (go_at_call 9; refine (HOf.out _).mono ?_; rintro e w5 ⟨rfl, hb5⟩))
      have L5 := Lib.hid (L4.out.on hb5)
      have B5 := Lib.hid (B4.out.keep hb5)
      clear L4 B4 hb5 F HOf
      generalize wr.heap.size = bx at *
      have L5d := Lib.hid L5.out.drew
      have B5d : Hid (SB bx cs w5.drew) := B5.out
      go_cut [] from 19 to 45 (fun W => ∃ t' : St, t'.f ≤ 2048 * (k + 1) + 1 ∧ Two w W w.heap.size (mb + 1) mb t' t' (2048 * (k + 1)))
      case first =>
        by_cases hkd : 0 < kd
        · have HQ1 : Hid (∀ W (u : St) (m : Nat), Two w W w.heap.size (mb + 1) mb t u m → SB bx cs W → Calls Try.prog 10 #[.pointer (some ⟨w.heap.size, 0, none⟩), .int .i64 num, .string x, .bool on] W fun e W' => e = .returned (.bool (moved t num x on)) ∧ Two w W' w.heap.size (mb + 1) mb (put t num x on) u m ∧ SB bx cs W') := fun W u m h hs => (put_any h.own h.ok hf2 num hn1 hn2 x hxz on).mono fun e W' h' => ⟨h'.1, h.put h'.2.1 (h.ok.put num x on) h'.2.2, hs.kq h.own h'.2.2⟩
          have HQ2 : Hid (∀ W (v : St), Two w W w.heap.size (mb + 1) mb v t (2048 * k) → SB bx cs W → Calls Try.prog 11 #[.pointer (some ⟨mb + 1, 0, none⟩), .int .i64 num, .string x, .bool on] W fun e W' => e = .returned (.bool (moved t num x on)) ∧ Two w W' w.heap.size (mb + 1) mb v (put t num x on) (2048 * (k + 1)) ∧ SB bx cs W') := fun W v h hs => (rput_any h.doc h.dok hf2 hm2 num hn1 hn2 x hxz on).mono fun e W' h' => ⟨h'.1, h.dput h'.2.1 (h.dok.put num x on) h'.2.2, hs.ku h.doc h'.2.2⟩
          have hfb : (put t num x on).f ≤ 2048 * (k + 1) + 1 := by rw [put_f]; omega
          generalize put t num x on = t' at *
          generalize moved t num x on = mv at *
          go_wp2_with fail
          refine wp_region_held_drew (S := fun w' => w'.cell? ⟨bx, 1, none⟩ = some (.int .i64 num) ∧ w'.cell? ⟨bx, 3, none⟩ = some (.bool on) ∧ w'.cell? ⟨bx, 4, none⟩ = some (.string x)) (by kernel_rfl) (HS.out _ B5d.out) (fun hHeld => ?_)
          refine takeH (i := 0) (d := some 20) (v := ?_) rfl rfl (by kernel_rfl) (by kernel_rfl) (by kernel_rfl) (fun _ _ _ h => h) (Or.inl ⟨by rfl, ?_⟩) hHeld ?_
          rotate_left
          · intro w' hSw; (try dsimp only at hSw); go_simp; try with_reducible rfl
          simp only [Act.put, List.setIfInBounds_toArray, List.set_cons_zero, List.set_cons_succ]
          refine takeH (i := 1) (d := some 21) (v := ?_) rfl rfl (by kernel_rfl) (by kernel_rfl) (by kernel_rfl) (fun _ _ _ h => h) (Or.inl ⟨by rfl, ?_⟩) hHeld ?_
          rotate_left
          · intro w' hSw; (try dsimp only at hSw); go_simp; try with_reducible rfl
          simp only [Act.put, List.setIfInBounds_toArray, List.set_cons_zero, List.set_cons_succ]
          refine takeH (i := 2) (d := some 22) (v := ?_) rfl rfl (by kernel_rfl) (by kernel_rfl) (by kernel_rfl) (fun _ _ _ h => h) (Or.inl ⟨by rfl, ?_⟩) hHeld ?_
          rotate_left
          · intro w' hSw; (try dsimp only at hSw); go_simp; try with_reducible rfl
          simp only [Act.put, List.setIfInBounds_toArray, List.set_cons_zero, List.set_cons_succ]
          refine takeH (i := 3) (d := some 23) (v := ?_) rfl rfl (by kernel_rfl) (by kernel_rfl) (by kernel_rfl) (fun _ _ _ h => h) (Or.inl ⟨by rfl, ?_⟩) hHeld ?_
          rotate_left
          · intro w' hSw; (try dsimp only at hSw); go_simp; try with_reducible rfl
          simp only [Act.put, List.setIfInBounds_toArray, List.set_cons_zero, List.set_cons_succ]
          refine takeH (i := 4) (d := some 24) (v := ?_) rfl rfl (by kernel_rfl) (by kernel_rfl) (by kernel_rfl) (fun _ _ _ h => h) (Or.inl ⟨by rfl, ?_⟩) hHeld ?_
          rotate_left
          · intro w' hSw; (try dsimp only at hSw); go_simp; try with_reducible rfl
          simp only [Act.put, List.setIfInBounds_toArray, List.set_cons_zero, List.set_cons_succ]
          refine takeH (i := 5) (d := some 25) (v := ?_) rfl rfl (by kernel_rfl) (by kernel_rfl) (by kernel_rfl) (fun _ _ _ h => h) (Or.inl ⟨by rfl, ?_⟩) hHeld ?_
          rotate_left
          · intro w' hSw; (try dsimp only at hSw); go_simp; try with_reducible rfl
          simp only [Act.put, List.setIfInBounds_toArray, List.set_cons_zero, List.set_cons_succ]
          refine takeH (i := 6) (d := some 26) (v := ?_) rfl rfl (by kernel_rfl) (by kernel_rfl) (by kernel_rfl) (fun _ _ _ h => h) (Or.inl ⟨by rfl, ?_⟩) hHeld ?_
          rotate_left
          · intro w' hSw; (try dsimp only at hSw); go_simp; try with_reducible rfl
          simp only [Act.put, List.setIfInBounds_toArray, List.set_cons_zero, List.set_cons_succ]
          refine takeH (i := 8) (d := some 28) (v := ?_) rfl rfl (by kernel_rfl) (by kernel_rfl) (by kernel_rfl) (fun _ _ _ h => h) (Or.inl ⟨by rfl, ?_⟩) hHeld ?_
          rotate_left
          · intro w' hSw; (try dsimp only at hSw); go_simp; try with_reducible rfl
          simp only [Act.put, List.setIfInBounds_toArray, List.set_cons_zero, List.set_cons_succ]
          refine takeH (i := 9) (d := some 29) (v := ?_) rfl rfl (by kernel_rfl) (by kernel_rfl) (by kernel_rfl) (fun _ _ _ h => h) (Or.inl ⟨by rfl, ?_⟩) hHeld ?_
          rotate_left
          · intro w' hSw; (try dsimp only at hSw); go_simp; try with_reducible rfl
          simp only [Act.put, List.setIfInBounds_toArray, List.set_cons_zero, List.set_cons_succ]
          refine takeH (i := 10) (d := some 30) (v := ?_) rfl rfl (by kernel_rfl) (by kernel_rfl) (by kernel_rfl) (fun _ _ _ h => h) (Or.inl ⟨by rfl, ?_⟩) hHeld ?_
          rotate_left
          · intro w' hSw; (try dsimp only at hSw); go_simp; try with_reducible rfl
          simp only [Act.put, List.setIfInBounds_toArray, List.set_cons_zero, List.set_cons_succ]
          refine takeH (i := 11) (d := some 31) (v := ?_) rfl rfl (by kernel_rfl) (by kernel_rfl) (by kernel_rfl) (fun _ _ _ h => h) (Or.inl ⟨by rfl, ?_⟩) hHeld ?_
          rotate_left
          · intro w' hSw; (try dsimp only at hSw); go_simp; try with_reducible rfl
          simp only [Act.put, List.setIfInBounds_toArray, List.set_cons_zero, List.set_cons_succ]
          refine takeH (i := 12) (d := some 32) (v := ?_) rfl rfl (by kernel_rfl) (by kernel_rfl) (by kernel_rfl) (fun _ _ _ h => h) (Or.inl ⟨by rfl, ?_⟩) hHeld ?_
          rotate_left
          · intro w' hSw; (try dsimp only at hSw); go_simp; try with_reducible rfl
          simp only [Act.put, List.setIfInBounds_toArray, List.set_cons_zero, List.set_cons_succ]
          refine takeH (i := 13) (d := some 33) (v := ?_) rfl rfl (by kernel_rfl) (by kernel_rfl) (by kernel_rfl) (fun _ _ _ h => h) (Or.inl ⟨by rfl, ?_⟩) hHeld ?_
          rotate_left
          · intro w' hSw; (try dsimp only at hSw); go_simp; try with_reducible rfl
          simp only [Act.put, List.setIfInBounds_toArray, List.set_cons_zero, List.set_cons_succ]
          refine takeH (i := 14) (d := some 34) (v := ?_) rfl rfl (by kernel_rfl) (by kernel_rfl) (by kernel_rfl) (fun _ _ _ h => h) (Or.inl ⟨by rfl, ?_⟩) hHeld ?_
          rotate_left
          · intro w' hSw; (try dsimp only at hSw); go_simp; try with_reducible rfl
          simp only [Act.put, List.setIfInBounds_toArray, List.set_cons_zero, List.set_cons_succ]
          refine wpAnyH_ready (rs := [7]) (by kernel_rfl) (by simp) ?_
          refine AllReadyH.cons rfl (fun K hK => ?_) AllReadyH.nil
          go_simp
          refine (HQ1.out _ _ _ L5d.out B5d.out).mono ?_; rintro e w6 ⟨rfl, hL6, hB6⟩
          have L6 := Lib.hid hL6
          have B6 := Lib.hid hB6
          clear hL6 hB6 hHeld
          refine hK.out _ _ (HS.out _ B6.out) (fun hHeld => ?_)
          clear hK K
          try simp only [Act.put, List.setIfInBounds_toArray, List.set_cons_zero, List.set_cons_succ]
          refine wpAnyH_ready (rs := [15]) (by kernel_rfl) (by simp) ?_
          refine AllReadyH.cons rfl (fun K hK => ?_) AllReadyH.nil
          go_simp
          refine (HQ2.out _ _ L6.out B6.out).mono ?_; rintro e w7 ⟨rfl, hL7, hB7⟩
          have L7 := Lib.hid hL7
          have B7 := Lib.hid hB7
          clear hL7 hB7 hHeld
          refine hK.out _ _ (HS.out _ B7.out) (fun hHeld => ?_)
          clear hK K
          try simp only [Act.put, List.setIfInBounds_toArray, List.set_cons_zero, List.set_cons_succ]
          refine takeH (i := 16) (d := some 36) (v := ?_) rfl rfl (by kernel_rfl) (by kernel_rfl) (by kernel_rfl) (fun _ _ _ h => h) (Or.inl ⟨by rfl, ?_⟩) hHeld ?_
          rotate_left
          · intro w' hSw; (try dsimp only at hSw); go_simp; try with_reducible rfl
          simp only [Act.put, List.setIfInBounds_toArray, List.set_cons_zero, List.set_cons_succ]
          refine wpAnyH_done (by kernel_rfl) ?_ _
          try go_wp2_with fail
          go_meet
          exact ⟨_, hfb, L7.out⟩
        · have HQ1 : Hid (∀ W (u : St) (m : Nat), Two w W w.heap.size (mb + 1) mb t u m → SB bx cs W → Calls Try.prog 12 #[.pointer (some ⟨w.heap.size, 0, none⟩), .int .i64 num] W fun e W' => e = .returned (.string (str t.c t.f (rk t num))) ∧ Two w W' w.heap.size (mb + 1) mb (rd t num) u m ∧ SB bx cs W') := fun W u m h hs => (read_any h.own h.ok hf2 num hn1 hn2 _ rfl).mono fun e W' h' => ⟨h'.1, h.put h'.2.1 (h.ok.rd num) h'.2.2, hs.kq h.own h'.2.2⟩
          have HQ2 : Hid (∀ W (v : St), Two w W w.heap.size (mb + 1) mb v t (2048 * k) → SB bx cs W → Calls Try.prog 13 #[.pointer (some ⟨mb + 1, 0, none⟩), .int .i64 num] W fun e W' => e = .returned (.string (str t.c t.f (rk t num))) ∧ Two w W' w.heap.size (mb + 1) mb v (rd t num) (2048 * (k + 1)) ∧ SB bx cs W') := fun W v h hs => (rread_any h.doc h.dok hf2 num hn1 hn2 _ rfl).mono fun e W' h' => ⟨h'.1, (h.dput h'.2.1 (h.dok.rd num) (h'.2.2.mono (by simp))).mono (by omega), hs.ku h.doc (h'.2.2.mono (by simp))⟩
          have hfb : (rd t num).f ≤ 2048 * (k + 1) + 1 := by have := rd_f L5.out.ok num; omega
          generalize rd t num = t' at *
          generalize str t.c t.f (rk t num) = X at *
          go_wp2_with fail
          refine wp_region_held_drew (S := fun w' => w'.cell? ⟨bx, 1, none⟩ = some (.int .i64 num) ∧ w'.cell? ⟨bx, 3, none⟩ = some (.bool on) ∧ w'.cell? ⟨bx, 4, none⟩ = some (.string x)) (by kernel_rfl) (HS.out _ B5d.out) (fun hHeld => ?_)
          refine takeH (i := 0) (d := some 37) (v := ?_) rfl rfl (by kernel_rfl) (by kernel_rfl) (by kernel_rfl) (fun _ _ _ h => h) (Or.inl ⟨by rfl, ?_⟩) hHeld ?_
          rotate_left
          · intro w' hSw; (try dsimp only at hSw); go_simp; try with_reducible rfl
          simp only [Act.put, List.setIfInBounds_toArray, List.set_cons_zero, List.set_cons_succ]
          refine takeH (i := 1) (d := some 38) (v := ?_) rfl rfl (by kernel_rfl) (by kernel_rfl) (by kernel_rfl) (fun _ _ _ h => h) (Or.inl ⟨by rfl, ?_⟩) hHeld ?_
          rotate_left
          · intro w' hSw; (try dsimp only at hSw); go_simp; try with_reducible rfl
          simp only [Act.put, List.setIfInBounds_toArray, List.set_cons_zero, List.set_cons_succ]
          refine takeH (i := 2) (d := some 39) (v := ?_) rfl rfl (by kernel_rfl) (by kernel_rfl) (by kernel_rfl) (fun _ _ _ h => h) (Or.inl ⟨by rfl, ?_⟩) hHeld ?_
          rotate_left
          · intro w' hSw; (try dsimp only at hSw); go_simp; try with_reducible rfl
          simp only [Act.put, List.setIfInBounds_toArray, List.set_cons_zero, List.set_cons_succ]
          refine takeH (i := 4) (d := some 41) (v := ?_) rfl rfl (by kernel_rfl) (by kernel_rfl) (by kernel_rfl) (fun _ _ _ h => h) (Or.inl ⟨by rfl, ?_⟩) hHeld ?_
          rotate_left
          · intro w' hSw; (try dsimp only at hSw); go_simp; try with_reducible rfl
          simp only [Act.put, List.setIfInBounds_toArray, List.set_cons_zero, List.set_cons_succ]
          refine takeH (i := 5) (d := some 42) (v := ?_) rfl rfl (by kernel_rfl) (by kernel_rfl) (by kernel_rfl) (fun _ _ _ h => h) (Or.inl ⟨by rfl, ?_⟩) hHeld ?_
          rotate_left
          · intro w' hSw; (try dsimp only at hSw); go_simp; try with_reducible rfl
          simp only [Act.put, List.setIfInBounds_toArray, List.set_cons_zero, List.set_cons_succ]
          refine takeH (i := 6) (d := some 43) (v := ?_) rfl rfl (by kernel_rfl) (by kernel_rfl) (by kernel_rfl) (fun _ _ _ h => h) (Or.inl ⟨by rfl, ?_⟩) hHeld ?_
          rotate_left
          · intro w' hSw; (try dsimp only at hSw); go_simp; try with_reducible rfl
          simp only [Act.put, List.setIfInBounds_toArray, List.set_cons_zero, List.set_cons_succ]
          refine wpAnyH_ready (rs := [3]) (by kernel_rfl) (by simp) ?_
          refine AllReadyH.cons rfl (fun K hK => ?_) AllReadyH.nil
          go_simp
          refine (HQ1.out _ _ _ L5d.out B5d.out).mono ?_; rintro e w6 ⟨rfl, hL6, hB6⟩
          have L6 := Lib.hid hL6
          have B6 := Lib.hid hB6
          clear hL6 hB6 hHeld
          refine hK.out _ _ (HS.out _ B6.out) (fun hHeld => ?_)
          clear hK K
          try simp only [Act.put, List.setIfInBounds_toArray, List.set_cons_zero, List.set_cons_succ]
          refine wpAnyH_ready (rs := [7]) (by kernel_rfl) (by simp) ?_
          refine AllReadyH.cons rfl (fun K hK => ?_) AllReadyH.nil
          go_simp
          refine (HQ2.out _ _ L6.out B6.out).mono ?_; rintro e w7 ⟨rfl, hL7, hB7⟩
          have L7 := Lib.hid hL7
          have B7 := Lib.hid hB7
          clear hL7 hB7 hHeld
          refine hK.out _ _ (HS.out _ B7.out) (fun hHeld => ?_)
          clear hK K
          try simp only [Act.put, List.setIfInBounds_toArray, List.set_cons_zero, List.set_cons_succ]
          refine takeH (i := 8) (d := some 45) (v := ?_) rfl rfl (by kernel_rfl) (by kernel_rfl) (by kernel_rfl) (fun _ _ _ h => h) (Or.inl ⟨by rfl, ?_⟩) hHeld ?_
          rotate_left
          · intro w' hSw; (try dsimp only at hSw); go_simp; try with_reducible rfl
          simp only [Act.put, List.setIfInBounds_toArray, List.set_cons_zero, List.set_cons_succ]
          refine wpAnyH_done (by kernel_rfl) ?_ _
          try go_wp2_with fail
          go_meet
          exact ⟨_, hfb, L7.out⟩
      case rest =>
        obtain ⟨t6, hf6, hL6⟩ := hcut
        have L6 := Lib.hid hL6
        have hf7 : t6.f ≤ 1152921504606846976 := by omega
        have HON : Hid (∀ W, Two w W w.heap.size (mb + 1) mb t6 t6 (2048 * (k + 1)) → Calls Try.prog 14 #[.pointer (some ⟨w.heap.size, 0, none⟩)] W fun e W' => e = .returned (.int .i64 (nxt t6 : Int)) ∧ Two w W' w.heap.size (mb + 1) mb t6 t6 (2048 * (k + 1))) := fun W h => (next_any h.own).mono fun e W' h' => ⟨h'.1, by rw [h'.2]; exact h⟩
        have HDN : Hid (∀ W, Two w W w.heap.size (mb + 1) mb t6 t6 (2048 * (k + 1)) → Calls Try.prog 15 #[.pointer (some ⟨mb + 1, 0, none⟩)] W fun e W' => e = .returned (.int .i64 (nxt t6 : Int)) ∧ Two w W' w.heap.size (mb + 1) mb t6 t6 (2048 * (k + 1))) := fun W h => (rnext_any h.doc h.dok hf7).mono fun e W' h' => ⟨h'.1, by obtain ⟨n, e⟩ := h'.2; rw [e]; exact h.drewN n⟩
        have HOW : Hid (∀ W, Two w W w.heap.size (mb + 1) mb t6 t6 (2048 * (k + 1)) → Calls Try.prog 16 #[.pointer (some ⟨w.heap.size, 0, none⟩)] W fun e W' => e = .returned (.int .i64 (wnd t6)) ∧ Two w W' w.heap.size (mb + 1) mb t6 t6 (2048 * (k + 1))) := fun W h => (window_any h.own h.ok.lo hf7).mono fun e W' h' => ⟨h'.1, by obtain ⟨n, e⟩ := h'.2; rw [e]; exact h.drewN n⟩
        have HDW : Hid (∀ W, Two w W w.heap.size (mb + 1) mb t6 t6 (2048 * (k + 1)) → Calls Try.prog 17 #[.pointer (some ⟨mb + 1, 0, none⟩)] W fun e W' => e = .returned (.int .i64 (wnd t6)) ∧ Two w W' w.heap.size (mb + 1) mb t6 t6 (2048 * (k + 1))) := fun W h => (rwindow_any h.doc h.dok hf7).mono fun e W' h' => ⟨h'.1, by obtain ⟨n, e⟩ := h'.2; rw [e]; exact h.drewN n⟩
        have HOR : Hid (∀ W, Two w W w.heap.size (mb + 1) mb t6 t6 (2048 * (k + 1)) → Calls Try.prog 18 #[.pointer (some ⟨w.heap.size, 0, none⟩)] W fun e W' => e = .returned (.int .i64 (rdy t6 : Int)) ∧ Two w W' w.heap.size (mb + 1) mb t6 t6 (2048 * (k + 1))) := fun W h => (ready_any h.own h.ok.lo hf7).mono fun e W' h' => ⟨h'.1, by obtain ⟨n, e⟩ := h'.2; rw [e]; exact h.drewN n⟩
        have HDR : Hid (∀ W, Two w W w.heap.size (mb + 1) mb t6 t6 (2048 * (k + 1)) → Calls Try.prog 19 #[.pointer (some ⟨mb + 1, 0, none⟩)] W fun e W' => e = .returned (.int .i64 (rdy t6 : Int)) ∧ Two w W' w.heap.size (mb + 1) mb t6 t6 (2048 * (k + 1))) := fun W h => (rready_any h.doc h.dok hf7).mono fun e W' h' => ⟨h'.1, by obtain ⟨n, e⟩ := h'.2; rw [e]; exact h.drewN n⟩
        have HOO : Hid (∀ W, Two w W w.heap.size (mb + 1) mb t6 t6 (2048 * (k + 1)) → Calls Try.prog 20 #[.pointer (some ⟨w.heap.size, 0, none⟩)] W fun e W' => e = .returned (.bool (over t6)) ∧ Two w W' w.heap.size (mb + 1) mb t6 t6 (2048 * (k + 1))) := fun W h => (over_any h.own h.ok.lo).mono fun e W' h' => ⟨h'.1, by obtain ⟨n, e⟩ := h'.2; rw [e]; exact h.drewN n⟩
        have HDO : Hid (∀ W, Two w W w.heap.size (mb + 1) mb t6 t6 (2048 * (k + 1)) → Calls Try.prog 21 #[.pointer (some ⟨mb + 1, 0, none⟩)] W fun e W' => e = .returned (.bool (over t6)) ∧ Two w W' w.heap.size (mb + 1) mb t6 t6 (2048 * (k + 1))) := fun W h => (rover_any h.doc h.dok hf7).mono fun e W' h' => ⟨h'.1, by obtain ⟨n, e⟩ := h'.2; rw [e]; exact h.drewN n⟩
        clear hL6 L5 B5 L5d B5d HS hxz hf2 hm2 hf
        generalize (nxt t6 : Int) = vN at *
        generalize wnd t6 = vW at *
        generalize (rdy t6 : Int) = vR at *
        generalize over t6 = vO at *
        generalize hmm : 2048 * (k + 1) = mm at *
        have HMM := Lib.hid hmm
        clear hmm
        go_wp2_with fail
        refine (HON.out _ L6.out).mono ?_; rintro e w7 ⟨rfl, hL7⟩
        go_wp2_with fail
        refine (HDN.out _ hL7).mono ?_; rintro e w8 ⟨rfl, hL8⟩
        clear hL7
        go_wp2_with fail
        refine (HOW.out _ hL8).mono ?_; rintro e w9 ⟨rfl, hL9⟩
        clear hL8
        go_wp2_with fail
        refine (HDW.out _ hL9).mono ?_; rintro e w10 ⟨rfl, hL10⟩
        clear hL9
        go_wp2_with fail
        refine (HOR.out _ hL10).mono ?_; rintro e w11 ⟨rfl, hL11⟩
        clear hL10
        go_wp2_with fail
        refine (HDR.out _ hL11).mono ?_; rintro e w12 ⟨rfl, hL12⟩
        clear hL11
        go_wp2_with fail
        refine (HOO.out _ hL12).mono ?_; rintro e w13 ⟨rfl, hL13⟩
        clear hL12
        go_wp2_with fail
        refine (HDO.out _ hL13).mono ?_; rintro e w14 ⟨rfl, hL14⟩
        have L14 := Lib.hid hL14
        clear hL13 hL14 L6
        go_wp2_with fail
        go_roundw
        case rel => exact ⟨k + 1, t6, by omega, by go_num, by rw [HMM.out]; exact hf6, by rw [HMM.out]; exact L14.out⟩
        case measure => simp only [intOf]; omega
    · have hf7 : t.f ≤ 1152921504606846976 := by omega
      have HOW : Hid (∀ W, Two w W w.heap.size (mb + 1) mb t t (2048 * k) → Calls Try.prog 16 #[.pointer (some ⟨w.heap.size, 0, none⟩)] W fun e W' => e = .returned (.int .i64 (wnd t)) ∧ Two w W' w.heap.size (mb + 1) mb t t (2048 * k)) := fun W h => (window_any h.own h.ok.lo hf7).mono fun e W' h' => ⟨h'.1, by obtain ⟨n, e⟩ := h'.2; rw [e]; exact h.drewN n⟩
      have HDW : Hid (∀ W, Two w W w.heap.size (mb + 1) mb t t (2048 * k) → Calls Try.prog 17 #[.pointer (some ⟨mb + 1, 0, none⟩)] W fun e W' => e = .returned (.int .i64 (wnd t)) ∧ Two w W' w.heap.size (mb + 1) mb t t (2048 * k)) := fun W h => (rwindow_any h.doc h.dok hf7).mono fun e W' h' => ⟨h'.1, by obtain ⟨n, e⟩ := h'.2; rw [e]; exact h.drewN n⟩
      go_wp2_with fail
      refine (HOW.out _ L.out).mono ?_; rintro e w2 ⟨rfl, hL7⟩
      go_wp2_with fail
      refine (HDW.out _ hL7).mono ?_; rintro e w3 ⟨rfl, hL8⟩
      have L3 := Lib.hid hL8.be
      clear hL7 hL8
      go_wp2_with fail
      go_ret
      exact ⟨ret_bool (by first | rfl | (simp; done)), L3.out⟩
end Go.Proofs.Ythdjdfemckjebaa
