/-
  The document's four numbers, each in a box; its ROUNDS.
-/
import Derived.Test.YtoococeaanndkaaDoorTk
namespace Go.Proofs.YtoococeaanndkaaDoor
open Go.RowKit
set_option linter.unusedVariables false
set_option linter.unusedSimpArgs false

/-- To take an operation first, the slot that it writes named. -/
theorem takeH {P : Program} {md : Region.Mode} {ops : Array Oper} {Q : Exit → Act → World → Prop} {S : World → Prop} {i : Nat} {oi : Oper} {d : Option Tmp} {v : Value} {fuel : Nat} {listed : Array Bool} {a : Act} {w : World} (hi : ops[i]? = some oi) (hd : oi.dst = d)
    (hs : Region.noSelect ops = true) (hf : Region.free md ops listed i = true) (hr : (Region.ready md ops listed).contains i = true)
    (hQ : ∀ c a w, Q (.panic c) (a.put d v) w → Q (.panic c) a w) (hy : YieldsIf P ops S oi v a) (hS : S w)
    (h : wpAnyH P md ops Q S fuel (listed.setIfInBounds i true) (a.put d v) w) : wpAnyH P md ops Q S (fuel + 1) listed a w := by
  subst hd
  exact wpAnyH_take hi hs hf hr hQ hy hS h
/-- A block that holds one. -/
def OB (p : Nat) (x : Int) (W : World) : Prop := W.heap[p]? = some (.cells #[.int .u64 x] 22 (0, 0))
section
variable {p q : Nat} {x : Int} {W W' : World}
theorem OB.lt (h : OB p x W) : p < W.heap.size := lt_of_heap h
theorem OB.keep (h : OB p x W) (hb : Below W.heap.size W W') : OB p x W' := (hb.block _ h.lt).trans h
theorem OB.c0 (h : OB p x W) : W.cell? ⟨p, 0, none⟩ = some (.int .u64 x) := Joins.cell_of_block h 0
theorem OB.s0 (h : OB p x W) (y : Int) : OB p y (W.setCell ⟨p, 0, none⟩ (.int .u64 y)) := Joins.block_setCell h _
theorem OB.away (h : OB p x W) (hn : p ≠ q) (v : Value) : OB p x (W.setCell ⟨q, 0, none⟩ v) := (Below.heap_setCell _ _ _ _ hn).trans h
theorem OB.free (h : OB p x W) (i : Nat) : W.frozen? ⟨p, i, none⟩ = false := Joins.unfrozen_of_block h i
end
/-- The four, in blocks from k on. -/
structure QB (k : Nat) (s : Sp) (W : World) : Prop where
  a : OB k s.a W
  b : OB (k + 1) s.b W
  c : OB (k + 2) s.c W
  d : OB (k + 3) s.d W
section
variable {k : Nat} {s : Sp} {W W' : World}
theorem QB.keep (h : QB k s W) (hb : Below W.heap.size W W') : QB k s W' := ⟨h.a.keep hb, h.b.keep hb, h.c.keep hb, h.d.keep hb⟩
theorem QB.drew (h : QB k s W) : QB k s W.drew := ⟨h.a, h.b, h.c, h.d⟩
theorem QB.s0 (h : QB k s W) (x : Int) : QB k { s with a := x } (W.setCell ⟨k, 0, none⟩ (.int .u64 x)) := ⟨h.a.s0 _, h.b.away (by omega) _, h.c.away (by omega) _, h.d.away (by omega) _⟩
theorem QB.s1 (h : QB k s W) (x : Int) : QB k { s with b := x } (W.setCell ⟨k + 1, 0, none⟩ (.int .u64 x)) := ⟨h.a.away (by omega) _, h.b.s0 _, h.c.away (by omega) _, h.d.away (by omega) _⟩
theorem QB.s2 (h : QB k s W) (x : Int) : QB k { s with c := x } (W.setCell ⟨k + 2, 0, none⟩ (.int .u64 x)) := ⟨h.a.away (by omega) _, h.b.away (by omega) _, h.c.s0 _, h.d.away (by omega) _⟩
theorem QB.s3 (h : QB k s W) (x : Int) : QB k { s with d := x } (W.setCell ⟨k + 3, 0, none⟩ (.int .u64 x)) := ⟨h.a.away (by omega) _, h.b.away (by omega) _, h.c.away (by omega) _, h.d.s0 _⟩
end

set_option maxHeartbeats 8000000 in
theorem clo_any (B k : Nat) (s : Sp) (n : Nat) (hn : n ≤ 4) (w : World) (h : QB k s w) :
    Calls Tryd.prog 31 #[.int .i64 (n : Int), .pointer (some ⟨k, 0, none⟩), .pointer (some ⟨k + 1, 0, none⟩), .pointer (some ⟨k + 2, 0, none⟩), .pointer (some ⟨k + 3, 0, none⟩)] w fun e w' => e = .returned (.tuple #[]) ∧ QB k (s.rnds n) w' ∧ Below k w w' := by
  have B0 := Lib.hid h
  have K0 := Lib.hid (Below.refl k w)
  clear h
  go_enter Tryd.func31, Tryd.ntmps31
  go_wp2_with fail
  go_loopw [7] (fun i W => ∃ j : Nat, j ≤ n ∧ i = .int .i64 j ∧ QB k (s.rnds j) W ∧ Below k w W) (fun i _ => n - (intOf i).toNat)
  case atStart => exact ⟨0, Nat.zero_le _, rfl, B0.out, K0.out⟩
  case round =>
    obtain ⟨j, hj, rfl, hB, hK⟩ := hrel
    have B1 := Lib.hid hB
    have K1 := Lib.hid hK
    clear hB hK B0 K0
    by_cases hlt : j < n
    · have HR : Hid ((s.rnds j).rnd = s.rnds (j + 1)) := rfl
      have hlt' : (j : Int) < (n : Int) := by omega
      generalize s.rnds j = s1 at *
      obtain ⟨a, b, c, d⟩ := s1
      obtain ⟨a1, Ea1⟩ : ∃ x, Hid (IntKind.u64.wrap (a + b) = x) := ⟨_, rfl⟩
      obtain ⟨b1, Eb1⟩ : ∃ x, Hid (bits .xor .u64 (rot b 13) a1 = x) := ⟨_, rfl⟩
      obtain ⟨a2, Ea2⟩ : ∃ x, Hid (rot a1 32 = x) := ⟨_, rfl⟩
      obtain ⟨c1, Ec1⟩ : ∃ x, Hid (IntKind.u64.wrap (c + d) = x) := ⟨_, rfl⟩
      obtain ⟨d1, Ed1⟩ : ∃ x, Hid (bits .xor .u64 (rot d 16) c1 = x) := ⟨_, rfl⟩
      obtain ⟨a3, Ea3⟩ : ∃ x, Hid (IntKind.u64.wrap (a2 + d1) = x) := ⟨_, rfl⟩
      obtain ⟨d2, Ed2⟩ : ∃ x, Hid (bits .xor .u64 (rot d1 21) a3 = x) := ⟨_, rfl⟩
      obtain ⟨c2, Ec2⟩ : ∃ x, Hid (IntKind.u64.wrap (c1 + b1) = x) := ⟨_, rfl⟩
      obtain ⟨b2, Eb2⟩ : ∃ x, Hid (bits .xor .u64 (rot b1 17) c2 = x) := ⟨_, rfl⟩
      obtain ⟨c3, Ec3⟩ : ∃ x, Hid (rot c2 32 = x) := ⟨_, rfl⟩
      have HF : Hid ((⟨a3, b2, c3, d2⟩ : Sp) = s.rnds (j + 1)) := by
        show _ = _
        rw [← HR.out, ← Ec3.out, ← Eb2.out, ← Ec2.out, ← Ed2.out, ← Ea3.out, ← Ed1.out, ← Ec1.out, ← Ea2.out, ← Eb1.out, ← Ea1.out]; rfl
      clear HR
      go_upto_region 2 with fail
      go_cut [] from 9 to 14 (fun wx => QB k ⟨a1, b, c1, d⟩ wx ∧ Below k w wx)
      case first =>
        have x0 := B1.out.a.c0
        have f0 := B1.out.a.free 0
        have x1 := B1.out.b.c0
        have f1 := B1.out.b.free 0
        have x2 := B1.out.c.c0
        have f2 := B1.out.c.free 0
        have x3 := B1.out.d.c0
        have f3 := B1.out.d.free 0
        go_region
        all_goals go_wp2_with fail
        all_goals go_meet
        all_goals rw [← Ec1.out, ← Ea1.out]
        all_goals first | (exact ⟨((B1.out.s0 _).s2 _).drew, ((K1.out.setCell (p := ⟨k, 0, none⟩) (Nat.le_refl k) _).setCell (p := ⟨k + 2, 0, none⟩) (Nat.le_add_right k 2) _).drew⟩) | (exact ⟨((B1.out.s2 _).s0 _).drew, ((K1.out.setCell (p := ⟨k + 2, 0, none⟩) (Nat.le_add_right k 2) _).setCell (p := ⟨k, 0, none⟩) (Nat.le_refl k) _).drew⟩)
      case rest =>
        obtain ⟨hB, hK⟩ := hcut
        have B2 := Lib.hid hB
        have K2 := Lib.hid hK
        clear hB hK B1 K1
        generalize wc = W2 at *
        go_upto_region 3 with fail
        go_cut [] from 15 to 22 (fun wx => QB k ⟨a1, b1, c1, d1⟩ wx ∧ Below k w wx)
        case first =>
          have HR13 : Hid (∀ W, QB k ⟨a1, b, c1, d⟩ W → Below k w W → Calls Tryd.prog 32 #[.int .u64 b, .int .i64 13] W fun e w' => e = .returned (.int .u64 (rot b 13)) ∧ QB k ⟨a1, b, c1, d⟩ w' ∧ Below k w w') := fun W h1 h2 => (round_any _ 13 W (by omega)).mono fun e w' h3 => ⟨h3.1, h3.2 ▸ h1.drew, h3.2 ▸ h2.drew⟩
          have HR16 : Hid (∀ W, QB k ⟨a1, b, c1, d⟩ W → Below k w W → Calls Tryd.prog 32 #[.int .u64 d, .int .i64 16] W fun e w' => e = .returned (.int .u64 (rot d 16)) ∧ QB k ⟨a1, b, c1, d⟩ w' ∧ Below k w w') := fun W h1 h2 => (round_any _ 16 W (by omega)).mono fun e w' h3 => ⟨h3.1, h3.2 ▸ h1.drew, h3.2 ▸ h2.drew⟩
          have y1 := B2.out.drew.b.c0
          have y3 := B2.out.drew.d.c0
          refine wp_region_held_drew (S := (fun W' => OB k a1 W' ∧ OB (k + 2) c1 W')) (by kernel_rfl) ⟨B2.out.drew.a, B2.out.drew.c⟩ (fun hHeld => ?_)
          refine takeH (i := 2) (d := some 17) (v := ?_) rfl rfl (by kernel_rfl) (by kernel_rfl) (by kernel_rfl) (fun _ _ _ h => h) (Or.inl ⟨by rfl, ?_⟩) hHeld ?_
          rotate_left
          · intro w' hSw; (try dsimp only at hSw); have t0 := hSw.1.c0; have t2 := hSw.2.c0; clear hSw; go_simp; try with_reducible rfl
          simp only [Act.put, List.setIfInBounds_toArray, List.set_cons_zero, List.set_cons_succ]
          refine takeH (i := 6) (d := some 21) (v := ?_) rfl rfl (by kernel_rfl) (by kernel_rfl) (by kernel_rfl) (fun _ _ _ h => h) (Or.inl ⟨by rfl, ?_⟩) hHeld ?_
          rotate_left
          · intro w' hSw; (try dsimp only at hSw); have t0 := hSw.1.c0; have t2 := hSw.2.c0; clear hSw; go_simp; try with_reducible rfl
          simp only [Act.put, List.setIfInBounds_toArray, List.set_cons_zero, List.set_cons_succ]
          refine wpAnyH_ready (rs := [0, 4]) (by kernel_rfl) (by simp) ?_
          refine AllReadyH.cons rfl (fun K hK => ?_) (AllReadyH.cons rfl (fun K hK => ?_) (AllReadyH.nil))
          · go_simp
            clear hHeld
            refine hK.out _ _ ⟨B2.out.drew.a, B2.out.drew.c⟩ (fun hHeld => ?_)
            clear hK K
            try simp only [Act.put, List.setIfInBounds_toArray, List.set_cons_zero, List.set_cons_succ]
            refine wpAnyH_ready (rs := [1, 4]) (by kernel_rfl) (by simp) ?_
            refine AllReadyH.cons rfl (fun K hK => ?_) (AllReadyH.cons rfl (fun K hK => ?_) (AllReadyH.nil))
            · go_simp
              refine (HR13.out _ B2.out.drew K2.out.drew).mono ?_; rintro e w51 ⟨rfl, q1, k1⟩
              have Q1 := Lib.hid q1
              have U1 := Lib.hid k1
              clear q1 k1
              have z11 := Q1.out.b.c0
              have z13 := Q1.out.d.c0
              have g11 := Q1.out.b.free 0
              have g13 := Q1.out.d.free 0
              clear hHeld
              refine hK.out _ _ ⟨Q1.out.a, Q1.out.c⟩ (fun hHeld => ?_)
              clear hK K
              try simp only [Act.put, List.setIfInBounds_toArray, List.set_cons_zero, List.set_cons_succ]
              refine takeH (i := 3) (d := some 18) (v := ?_) rfl rfl (by kernel_rfl) (by kernel_rfl) (by kernel_rfl) (fun _ _ _ h => h) (Or.inl ⟨by rfl, ?_⟩) hHeld ?_
              rotate_left
              · intro w' hSw; (try dsimp only at hSw); go_simp; try with_reducible rfl
              simp only [Act.put, List.setIfInBounds_toArray, List.set_cons_zero, List.set_cons_succ]
              refine wpAnyH_ready (rs := [4]) (by kernel_rfl) (by simp) ?_
              refine AllReadyH.cons rfl (fun K hK => ?_) (AllReadyH.nil)
              go_simp
              clear hHeld
              refine hK.out _ _ ⟨Q1.out.a, Q1.out.c⟩ (fun hHeld => ?_)
              clear hK K
              try simp only [Act.put, List.setIfInBounds_toArray, List.set_cons_zero, List.set_cons_succ]
              refine wpAnyH_ready (rs := [5]) (by kernel_rfl) (by simp) ?_
              refine AllReadyH.cons rfl (fun K hK => ?_) (AllReadyH.nil)
              go_simp
              refine (HR16.out _ Q1.out U1.out).mono ?_; rintro e w55 ⟨rfl, q5, k5⟩
              have Q5 := Lib.hid q5
              have U5 := Lib.hid k5
              clear q5 k5
              have z51 := Q5.out.b.c0
              have z53 := Q5.out.d.c0
              have g51 := Q5.out.b.free 0
              have g53 := Q5.out.d.free 0
              clear hHeld
              refine hK.out _ _ ⟨Q5.out.a, Q5.out.c⟩ (fun hHeld => ?_)
              clear hK K
              try simp only [Act.put, List.setIfInBounds_toArray, List.set_cons_zero, List.set_cons_succ]
              refine takeH (i := 7) (d := some 22) (v := ?_) rfl rfl (by kernel_rfl) (by kernel_rfl) (by kernel_rfl) (fun _ _ _ h => h) (Or.inl ⟨by rfl, ?_⟩) hHeld ?_
              rotate_left
              · intro w' hSw; (try dsimp only at hSw); go_simp; try with_reducible rfl
              simp only [Act.put, List.setIfInBounds_toArray, List.set_cons_zero, List.set_cons_succ]
              refine wpAnyH_ready (rs := [8]) (by kernel_rfl) (by simp) ?_
              refine AllReadyH.cons rfl (fun K hK => ?_) (AllReadyH.nil)
              go_simp
              have Q8 := Lib.hid (Q5.out.s1 (bits .xor .u64 (rot b 13) a1))
              have U8 := Lib.hid (U5.out.setCell (p := ⟨k + 1, 0, none⟩) (Nat.le_add_right k 1) (.int .u64 (bits .xor .u64 (rot b 13) a1)))
              have g83 := Q8.out.d.free 0
              clear hHeld
              refine hK.out _ _ ⟨Q8.out.a, Q8.out.c⟩ (fun hHeld => ?_)
              clear hK K
              try simp only [Act.put, List.setIfInBounds_toArray, List.set_cons_zero, List.set_cons_succ]
              refine wpAnyH_ready (rs := [9]) (by kernel_rfl) (by simp) ?_
              refine AllReadyH.cons rfl (fun K hK => ?_) (AllReadyH.nil)
              go_simp
              have Q9 := Lib.hid (Q8.out.s3 (bits .xor .u64 (rot d 16) c1))
              have U9 := Lib.hid (U8.out.setCell (p := ⟨k + 3, 0, none⟩) (Nat.le_add_right k 3) (.int .u64 (bits .xor .u64 (rot d 16) c1)))
              clear hHeld
              refine hK.out _ _ ⟨Q9.out.a, Q9.out.c⟩ (fun hHeld => ?_)
              clear hK K
              try simp only [Act.put, List.setIfInBounds_toArray, List.set_cons_zero, List.set_cons_succ]
              refine wpAnyH_done (by kernel_rfl) ?_ _
              go_wp2_with fail
              go_meet
              rw [← Ed1.out, ← Eb1.out]
              exact ⟨Q9.out, U9.out⟩
            · go_simp
              clear hHeld
              refine hK.out _ _ ⟨B2.out.drew.a, B2.out.drew.c⟩ (fun hHeld => ?_)
              clear hK K
              try simp only [Act.put, List.setIfInBounds_toArray, List.set_cons_zero, List.set_cons_succ]
              refine wpAnyH_ready (rs := [1]) (by kernel_rfl) (by simp) ?_
              refine AllReadyH.cons rfl (fun K hK => ?_) (AllReadyH.nil)
              go_simp
              refine (HR13.out _ B2.out.drew K2.out.drew).mono ?_; rintro e w51 ⟨rfl, q1, k1⟩
              have Q1 := Lib.hid q1
              have U1 := Lib.hid k1
              clear q1 k1
              have z11 := Q1.out.b.c0
              have z13 := Q1.out.d.c0
              have g11 := Q1.out.b.free 0
              have g13 := Q1.out.d.free 0
              clear hHeld
              refine hK.out _ _ ⟨Q1.out.a, Q1.out.c⟩ (fun hHeld => ?_)
              clear hK K
              try simp only [Act.put, List.setIfInBounds_toArray, List.set_cons_zero, List.set_cons_succ]
              refine takeH (i := 3) (d := some 18) (v := ?_) rfl rfl (by kernel_rfl) (by kernel_rfl) (by kernel_rfl) (fun _ _ _ h => h) (Or.inl ⟨by rfl, ?_⟩) hHeld ?_
              rotate_left
              · intro w' hSw; (try dsimp only at hSw); go_simp; try with_reducible rfl
              simp only [Act.put, List.setIfInBounds_toArray, List.set_cons_zero, List.set_cons_succ]
              refine wpAnyH_ready (rs := [5]) (by kernel_rfl) (by simp) ?_
              refine AllReadyH.cons rfl (fun K hK => ?_) (AllReadyH.nil)
              go_simp
              refine (HR16.out _ Q1.out U1.out).mono ?_; rintro e w55 ⟨rfl, q5, k5⟩
              have Q5 := Lib.hid q5
              have U5 := Lib.hid k5
              clear q5 k5
              have z51 := Q5.out.b.c0
              have z53 := Q5.out.d.c0
              have g51 := Q5.out.b.free 0
              have g53 := Q5.out.d.free 0
              clear hHeld
              refine hK.out _ _ ⟨Q5.out.a, Q5.out.c⟩ (fun hHeld => ?_)
              clear hK K
              try simp only [Act.put, List.setIfInBounds_toArray, List.set_cons_zero, List.set_cons_succ]
              refine takeH (i := 7) (d := some 22) (v := ?_) rfl rfl (by kernel_rfl) (by kernel_rfl) (by kernel_rfl) (fun _ _ _ h => h) (Or.inl ⟨by rfl, ?_⟩) hHeld ?_
              rotate_left
              · intro w' hSw; (try dsimp only at hSw); go_simp; try with_reducible rfl
              simp only [Act.put, List.setIfInBounds_toArray, List.set_cons_zero, List.set_cons_succ]
              refine wpAnyH_ready (rs := [8]) (by kernel_rfl) (by simp) ?_
              refine AllReadyH.cons rfl (fun K hK => ?_) (AllReadyH.nil)
              go_simp
              have Q8 := Lib.hid (Q5.out.s1 (bits .xor .u64 (rot b 13) a1))
              have U8 := Lib.hid (U5.out.setCell (p := ⟨k + 1, 0, none⟩) (Nat.le_add_right k 1) (.int .u64 (bits .xor .u64 (rot b 13) a1)))
              have g83 := Q8.out.d.free 0
              clear hHeld
              refine hK.out _ _ ⟨Q8.out.a, Q8.out.c⟩ (fun hHeld => ?_)
              clear hK K
              try simp only [Act.put, List.setIfInBounds_toArray, List.set_cons_zero, List.set_cons_succ]
              refine wpAnyH_ready (rs := [9]) (by kernel_rfl) (by simp) ?_
              refine AllReadyH.cons rfl (fun K hK => ?_) (AllReadyH.nil)
              go_simp
              have Q9 := Lib.hid (Q8.out.s3 (bits .xor .u64 (rot d 16) c1))
              have U9 := Lib.hid (U8.out.setCell (p := ⟨k + 3, 0, none⟩) (Nat.le_add_right k 3) (.int .u64 (bits .xor .u64 (rot d 16) c1)))
              clear hHeld
              refine hK.out _ _ ⟨Q9.out.a, Q9.out.c⟩ (fun hHeld => ?_)
              clear hK K
              try simp only [Act.put, List.setIfInBounds_toArray, List.set_cons_zero, List.set_cons_succ]
              refine wpAnyH_done (by kernel_rfl) ?_ _
              go_wp2_with fail
              go_meet
              rw [← Ed1.out, ← Eb1.out]
              exact ⟨Q9.out, U9.out⟩
          · go_simp
            clear hHeld
            refine hK.out _ _ ⟨B2.out.drew.a, B2.out.drew.c⟩ (fun hHeld => ?_)
            clear hK K
            try simp only [Act.put, List.setIfInBounds_toArray, List.set_cons_zero, List.set_cons_succ]
            refine wpAnyH_ready (rs := [0]) (by kernel_rfl) (by simp) ?_
            refine AllReadyH.cons rfl (fun K hK => ?_) (AllReadyH.nil)
            go_simp
            clear hHeld
            refine hK.out _ _ ⟨B2.out.drew.a, B2.out.drew.c⟩ (fun hHeld => ?_)
            clear hK K
            try simp only [Act.put, List.setIfInBounds_toArray, List.set_cons_zero, List.set_cons_succ]
            refine wpAnyH_ready (rs := [1]) (by kernel_rfl) (by simp) ?_
            refine AllReadyH.cons rfl (fun K hK => ?_) (AllReadyH.nil)
            go_simp
            refine (HR13.out _ B2.out.drew K2.out.drew).mono ?_; rintro e w51 ⟨rfl, q1, k1⟩
            have Q1 := Lib.hid q1
            have U1 := Lib.hid k1
            clear q1 k1
            have z11 := Q1.out.b.c0
            have z13 := Q1.out.d.c0
            have g11 := Q1.out.b.free 0
            have g13 := Q1.out.d.free 0
            clear hHeld
            refine hK.out _ _ ⟨Q1.out.a, Q1.out.c⟩ (fun hHeld => ?_)
            clear hK K
            try simp only [Act.put, List.setIfInBounds_toArray, List.set_cons_zero, List.set_cons_succ]
            refine takeH (i := 3) (d := some 18) (v := ?_) rfl rfl (by kernel_rfl) (by kernel_rfl) (by kernel_rfl) (fun _ _ _ h => h) (Or.inl ⟨by rfl, ?_⟩) hHeld ?_
            rotate_left
            · intro w' hSw; (try dsimp only at hSw); go_simp; try with_reducible rfl
            simp only [Act.put, List.setIfInBounds_toArray, List.set_cons_zero, List.set_cons_succ]
            refine wpAnyH_ready (rs := [5]) (by kernel_rfl) (by simp) ?_
            refine AllReadyH.cons rfl (fun K hK => ?_) (AllReadyH.nil)
            go_simp
            refine (HR16.out _ Q1.out U1.out).mono ?_; rintro e w55 ⟨rfl, q5, k5⟩
            have Q5 := Lib.hid q5
            have U5 := Lib.hid k5
            clear q5 k5
            have z51 := Q5.out.b.c0
            have z53 := Q5.out.d.c0
            have g51 := Q5.out.b.free 0
            have g53 := Q5.out.d.free 0
            clear hHeld
            refine hK.out _ _ ⟨Q5.out.a, Q5.out.c⟩ (fun hHeld => ?_)
            clear hK K
            try simp only [Act.put, List.setIfInBounds_toArray, List.set_cons_zero, List.set_cons_succ]
            refine takeH (i := 7) (d := some 22) (v := ?_) rfl rfl (by kernel_rfl) (by kernel_rfl) (by kernel_rfl) (fun _ _ _ h => h) (Or.inl ⟨by rfl, ?_⟩) hHeld ?_
            rotate_left
            · intro w' hSw; (try dsimp only at hSw); go_simp; try with_reducible rfl
            simp only [Act.put, List.setIfInBounds_toArray, List.set_cons_zero, List.set_cons_succ]
            refine wpAnyH_ready (rs := [8]) (by kernel_rfl) (by simp) ?_
            refine AllReadyH.cons rfl (fun K hK => ?_) (AllReadyH.nil)
            go_simp
            have Q8 := Lib.hid (Q5.out.s1 (bits .xor .u64 (rot b 13) a1))
            have U8 := Lib.hid (U5.out.setCell (p := ⟨k + 1, 0, none⟩) (Nat.le_add_right k 1) (.int .u64 (bits .xor .u64 (rot b 13) a1)))
            have g83 := Q8.out.d.free 0
            clear hHeld
            refine hK.out _ _ ⟨Q8.out.a, Q8.out.c⟩ (fun hHeld => ?_)
            clear hK K
            try simp only [Act.put, List.setIfInBounds_toArray, List.set_cons_zero, List.set_cons_succ]
            refine wpAnyH_ready (rs := [9]) (by kernel_rfl) (by simp) ?_
            refine AllReadyH.cons rfl (fun K hK => ?_) (AllReadyH.nil)
            go_simp
            have Q9 := Lib.hid (Q8.out.s3 (bits .xor .u64 (rot d 16) c1))
            have U9 := Lib.hid (U8.out.setCell (p := ⟨k + 3, 0, none⟩) (Nat.le_add_right k 3) (.int .u64 (bits .xor .u64 (rot d 16) c1)))
            clear hHeld
            refine hK.out _ _ ⟨Q9.out.a, Q9.out.c⟩ (fun hHeld => ?_)
            clear hK K
            try simp only [Act.put, List.setIfInBounds_toArray, List.set_cons_zero, List.set_cons_succ]
            refine wpAnyH_done (by kernel_rfl) ?_ _
            go_wp2_with fail
            go_meet
            rw [← Ed1.out, ← Eb1.out]
            exact ⟨Q9.out, U9.out⟩
        case rest =>
          obtain ⟨hB, hK⟩ := hcut
          have B3 := Lib.hid hB
          have K3 := Lib.hid hK
          clear hB hK B2 K2
          generalize wc = W3 at *
          go_upto_region 4 with fail
          go_cut [] from 23 to 24 (fun wx => QB k ⟨a2, b1, c1, d1⟩ wx ∧ Below k w wx)
          case first =>
            have x0 := B3.out.a.c0
            have f0 := B3.out.a.free 0
            have x1 := B3.out.b.c0
            have f1 := B3.out.b.free 0
            have x2 := B3.out.c.c0
            have f2 := B3.out.c.free 0
            have x3 := B3.out.d.c0
            have f3 := B3.out.d.free 0
            go_wp2_with fail
            refine (round_any _ 32 _ (by omega)).mono ?_; rintro e w1 ⟨rfl, rfl⟩
            have f9 := B3.out.drew.a.free 0
            go_wp2_with fail
            go_meet
            rw [← Ea2.out]
            exact ⟨B3.out.drew.s0 _, K3.out.drew.setCell (Nat.le_refl k) _⟩
          case rest =>
            obtain ⟨hB, hK⟩ := hcut
            have B4 := Lib.hid hB
            have K4 := Lib.hid hK
            clear hB hK B3 K3
            generalize wc = W4 at *
            go_upto_region 5 with fail
            go_cut [] from 25 to 59 (fun wx => QB k ⟨a3, b1, c2, d1⟩ wx ∧ Below k w wx)
            case first =>
              have x0 := B4.out.a.c0
              have f0 := B4.out.a.free 0
              have x1 := B4.out.b.c0
              have f1 := B4.out.b.free 0
              have x2 := B4.out.c.c0
              have f2 := B4.out.c.free 0
              have x3 := B4.out.d.c0
              have f3 := B4.out.d.free 0
              go_region
              all_goals go_wp2_with fail
              all_goals go_meet
              all_goals rw [← Ec2.out, ← Ea3.out]
              all_goals first | (exact ⟨((B4.out.s0 _).s2 _).drew, ((K4.out.setCell (p := ⟨k, 0, none⟩) (Nat.le_refl k) _).setCell (p := ⟨k + 2, 0, none⟩) (Nat.le_add_right k 2) _).drew⟩) | (exact ⟨((B4.out.s2 _).s0 _).drew, ((K4.out.setCell (p := ⟨k + 2, 0, none⟩) (Nat.le_add_right k 2) _).setCell (p := ⟨k, 0, none⟩) (Nat.le_refl k) _).drew⟩)
            case rest =>
              obtain ⟨hB, hK⟩ := hcut
              have B5 := Lib.hid hB
              have K5 := Lib.hid hK
              clear hB hK B4 K4
              generalize wc = W5 at *
              go_upto_region 6 with fail
              go_cut [] from 31 to 38 (fun wx => QB k ⟨a3, b2, c2, d2⟩ wx ∧ Below k w wx)
              case first =>
                have HR21 : Hid (∀ W, QB k ⟨a3, b1, c2, d1⟩ W → Below k w W → Calls Tryd.prog 32 #[.int .u64 d1, .int .i64 21] W fun e w' => e = .returned (.int .u64 (rot d1 21)) ∧ QB k ⟨a3, b1, c2, d1⟩ w' ∧ Below k w w') := fun W h1 h2 => (round_any _ 21 W (by omega)).mono fun e w' h3 => ⟨h3.1, h3.2 ▸ h1.drew, h3.2 ▸ h2.drew⟩
                have HR17 : Hid (∀ W, QB k ⟨a3, b1, c2, d1⟩ W → Below k w W → Calls Tryd.prog 32 #[.int .u64 b1, .int .i64 17] W fun e w' => e = .returned (.int .u64 (rot b1 17)) ∧ QB k ⟨a3, b1, c2, d1⟩ w' ∧ Below k w w') := fun W h1 h2 => (round_any _ 17 W (by omega)).mono fun e w' h3 => ⟨h3.1, h3.2 ▸ h1.drew, h3.2 ▸ h2.drew⟩
                have y3 := B5.out.drew.d.c0
                have y1 := B5.out.drew.b.c0
                refine wp_region_held_drew (S := (fun W' => OB k a3 W' ∧ OB (k + 2) c2 W')) (by kernel_rfl) ⟨B5.out.drew.a, B5.out.drew.c⟩ (fun hHeld => ?_)
                refine takeH (i := 2) (d := some 33) (v := ?_) rfl rfl (by kernel_rfl) (by kernel_rfl) (by kernel_rfl) (fun _ _ _ h => h) (Or.inl ⟨by rfl, ?_⟩) hHeld ?_
                rotate_left
                · intro w' hSw; (try dsimp only at hSw); have t0 := hSw.1.c0; have t2 := hSw.2.c0; clear hSw; go_simp; try with_reducible rfl
                simp only [Act.put, List.setIfInBounds_toArray, List.set_cons_zero, List.set_cons_succ]
                refine takeH (i := 6) (d := some 37) (v := ?_) rfl rfl (by kernel_rfl) (by kernel_rfl) (by kernel_rfl) (fun _ _ _ h => h) (Or.inl ⟨by rfl, ?_⟩) hHeld ?_
                rotate_left
                · intro w' hSw; (try dsimp only at hSw); have t0 := hSw.1.c0; have t2 := hSw.2.c0; clear hSw; go_simp; try with_reducible rfl
                simp only [Act.put, List.setIfInBounds_toArray, List.set_cons_zero, List.set_cons_succ]
                refine wpAnyH_ready (rs := [0, 4]) (by kernel_rfl) (by simp) ?_
                refine AllReadyH.cons rfl (fun K hK => ?_) (AllReadyH.cons rfl (fun K hK => ?_) (AllReadyH.nil))
                · go_simp
                  clear hHeld
                  refine hK.out _ _ ⟨B5.out.drew.a, B5.out.drew.c⟩ (fun hHeld => ?_)
                  clear hK K
                  try simp only [Act.put, List.setIfInBounds_toArray, List.set_cons_zero, List.set_cons_succ]
                  refine wpAnyH_ready (rs := [1, 4]) (by kernel_rfl) (by simp) ?_
                  refine AllReadyH.cons rfl (fun K hK => ?_) (AllReadyH.cons rfl (fun K hK => ?_) (AllReadyH.nil))
                  · go_simp
                    refine (HR21.out _ B5.out.drew K5.out.drew).mono ?_; rintro e w51 ⟨rfl, q1, k1⟩
                    have Q1 := Lib.hid q1
                    have U1 := Lib.hid k1
                    clear q1 k1
                    have z13 := Q1.out.d.c0
                    have z11 := Q1.out.b.c0
                    have g13 := Q1.out.d.free 0
                    have g11 := Q1.out.b.free 0
                    clear hHeld
                    refine hK.out _ _ ⟨Q1.out.a, Q1.out.c⟩ (fun hHeld => ?_)
                    clear hK K
                    try simp only [Act.put, List.setIfInBounds_toArray, List.set_cons_zero, List.set_cons_succ]
                    refine takeH (i := 3) (d := some 34) (v := ?_) rfl rfl (by kernel_rfl) (by kernel_rfl) (by kernel_rfl) (fun _ _ _ h => h) (Or.inl ⟨by rfl, ?_⟩) hHeld ?_
                    rotate_left
                    · intro w' hSw; (try dsimp only at hSw); go_simp; try with_reducible rfl
                    simp only [Act.put, List.setIfInBounds_toArray, List.set_cons_zero, List.set_cons_succ]
                    refine wpAnyH_ready (rs := [4]) (by kernel_rfl) (by simp) ?_
                    refine AllReadyH.cons rfl (fun K hK => ?_) (AllReadyH.nil)
                    go_simp
                    clear hHeld
                    refine hK.out _ _ ⟨Q1.out.a, Q1.out.c⟩ (fun hHeld => ?_)
                    clear hK K
                    try simp only [Act.put, List.setIfInBounds_toArray, List.set_cons_zero, List.set_cons_succ]
                    refine wpAnyH_ready (rs := [5]) (by kernel_rfl) (by simp) ?_
                    refine AllReadyH.cons rfl (fun K hK => ?_) (AllReadyH.nil)
                    go_simp
                    refine (HR17.out _ Q1.out U1.out).mono ?_; rintro e w55 ⟨rfl, q5, k5⟩
                    have Q5 := Lib.hid q5
                    have U5 := Lib.hid k5
                    clear q5 k5
                    have z53 := Q5.out.d.c0
                    have z51 := Q5.out.b.c0
                    have g53 := Q5.out.d.free 0
                    have g51 := Q5.out.b.free 0
                    clear hHeld
                    refine hK.out _ _ ⟨Q5.out.a, Q5.out.c⟩ (fun hHeld => ?_)
                    clear hK K
                    try simp only [Act.put, List.setIfInBounds_toArray, List.set_cons_zero, List.set_cons_succ]
                    refine takeH (i := 7) (d := some 38) (v := ?_) rfl rfl (by kernel_rfl) (by kernel_rfl) (by kernel_rfl) (fun _ _ _ h => h) (Or.inl ⟨by rfl, ?_⟩) hHeld ?_
                    rotate_left
                    · intro w' hSw; (try dsimp only at hSw); go_simp; try with_reducible rfl
                    simp only [Act.put, List.setIfInBounds_toArray, List.set_cons_zero, List.set_cons_succ]
                    refine wpAnyH_ready (rs := [8]) (by kernel_rfl) (by simp) ?_
                    refine AllReadyH.cons rfl (fun K hK => ?_) (AllReadyH.nil)
                    go_simp
                    have Q8 := Lib.hid (Q5.out.s3 (bits .xor .u64 (rot d1 21) a3))
                    have U8 := Lib.hid (U5.out.setCell (p := ⟨k + 3, 0, none⟩) (Nat.le_add_right k 3) (.int .u64 (bits .xor .u64 (rot d1 21) a3)))
                    have g81 := Q8.out.b.free 0
                    clear hHeld
                    refine hK.out _ _ ⟨Q8.out.a, Q8.out.c⟩ (fun hHeld => ?_)
                    clear hK K
                    try simp only [Act.put, List.setIfInBounds_toArray, List.set_cons_zero, List.set_cons_succ]
                    refine wpAnyH_ready (rs := [9]) (by kernel_rfl) (by simp) ?_
                    refine AllReadyH.cons rfl (fun K hK => ?_) (AllReadyH.nil)
                    go_simp
                    have Q9 := Lib.hid (Q8.out.s1 (bits .xor .u64 (rot b1 17) c2))
                    have U9 := Lib.hid (U8.out.setCell (p := ⟨k + 1, 0, none⟩) (Nat.le_add_right k 1) (.int .u64 (bits .xor .u64 (rot b1 17) c2)))
                    clear hHeld
                    refine hK.out _ _ ⟨Q9.out.a, Q9.out.c⟩ (fun hHeld => ?_)
                    clear hK K
                    try simp only [Act.put, List.setIfInBounds_toArray, List.set_cons_zero, List.set_cons_succ]
                    refine wpAnyH_done (by kernel_rfl) ?_ _
                    go_wp2_with fail
                    go_meet
                    rw [← Eb2.out, ← Ed2.out]
                    exact ⟨Q9.out, U9.out⟩
                  · go_simp
                    clear hHeld
                    refine hK.out _ _ ⟨B5.out.drew.a, B5.out.drew.c⟩ (fun hHeld => ?_)
                    clear hK K
                    try simp only [Act.put, List.setIfInBounds_toArray, List.set_cons_zero, List.set_cons_succ]
                    refine wpAnyH_ready (rs := [1]) (by kernel_rfl) (by simp) ?_
                    refine AllReadyH.cons rfl (fun K hK => ?_) (AllReadyH.nil)
                    go_simp
                    refine (HR21.out _ B5.out.drew K5.out.drew).mono ?_; rintro e w51 ⟨rfl, q1, k1⟩
                    have Q1 := Lib.hid q1
                    have U1 := Lib.hid k1
                    clear q1 k1
                    have z13 := Q1.out.d.c0
                    have z11 := Q1.out.b.c0
                    have g13 := Q1.out.d.free 0
                    have g11 := Q1.out.b.free 0
                    clear hHeld
                    refine hK.out _ _ ⟨Q1.out.a, Q1.out.c⟩ (fun hHeld => ?_)
                    clear hK K
                    try simp only [Act.put, List.setIfInBounds_toArray, List.set_cons_zero, List.set_cons_succ]
                    refine takeH (i := 3) (d := some 34) (v := ?_) rfl rfl (by kernel_rfl) (by kernel_rfl) (by kernel_rfl) (fun _ _ _ h => h) (Or.inl ⟨by rfl, ?_⟩) hHeld ?_
                    rotate_left
                    · intro w' hSw; (try dsimp only at hSw); go_simp; try with_reducible rfl
                    simp only [Act.put, List.setIfInBounds_toArray, List.set_cons_zero, List.set_cons_succ]
                    refine wpAnyH_ready (rs := [5]) (by kernel_rfl) (by simp) ?_
                    refine AllReadyH.cons rfl (fun K hK => ?_) (AllReadyH.nil)
                    go_simp
                    refine (HR17.out _ Q1.out U1.out).mono ?_; rintro e w55 ⟨rfl, q5, k5⟩
                    have Q5 := Lib.hid q5
                    have U5 := Lib.hid k5
                    clear q5 k5
                    have z53 := Q5.out.d.c0
                    have z51 := Q5.out.b.c0
                    have g53 := Q5.out.d.free 0
                    have g51 := Q5.out.b.free 0
                    clear hHeld
                    refine hK.out _ _ ⟨Q5.out.a, Q5.out.c⟩ (fun hHeld => ?_)
                    clear hK K
                    try simp only [Act.put, List.setIfInBounds_toArray, List.set_cons_zero, List.set_cons_succ]
                    refine takeH (i := 7) (d := some 38) (v := ?_) rfl rfl (by kernel_rfl) (by kernel_rfl) (by kernel_rfl) (fun _ _ _ h => h) (Or.inl ⟨by rfl, ?_⟩) hHeld ?_
                    rotate_left
                    · intro w' hSw; (try dsimp only at hSw); go_simp; try with_reducible rfl
                    simp only [Act.put, List.setIfInBounds_toArray, List.set_cons_zero, List.set_cons_succ]
                    refine wpAnyH_ready (rs := [8]) (by kernel_rfl) (by simp) ?_
                    refine AllReadyH.cons rfl (fun K hK => ?_) (AllReadyH.nil)
                    go_simp
                    have Q8 := Lib.hid (Q5.out.s3 (bits .xor .u64 (rot d1 21) a3))
                    have U8 := Lib.hid (U5.out.setCell (p := ⟨k + 3, 0, none⟩) (Nat.le_add_right k 3) (.int .u64 (bits .xor .u64 (rot d1 21) a3)))
                    have g81 := Q8.out.b.free 0
                    clear hHeld
                    refine hK.out _ _ ⟨Q8.out.a, Q8.out.c⟩ (fun hHeld => ?_)
                    clear hK K
                    try simp only [Act.put, List.setIfInBounds_toArray, List.set_cons_zero, List.set_cons_succ]
                    refine wpAnyH_ready (rs := [9]) (by kernel_rfl) (by simp) ?_
                    refine AllReadyH.cons rfl (fun K hK => ?_) (AllReadyH.nil)
                    go_simp
                    have Q9 := Lib.hid (Q8.out.s1 (bits .xor .u64 (rot b1 17) c2))
                    have U9 := Lib.hid (U8.out.setCell (p := ⟨k + 1, 0, none⟩) (Nat.le_add_right k 1) (.int .u64 (bits .xor .u64 (rot b1 17) c2)))
                    clear hHeld
                    refine hK.out _ _ ⟨Q9.out.a, Q9.out.c⟩ (fun hHeld => ?_)
                    clear hK K
                    try simp only [Act.put, List.setIfInBounds_toArray, List.set_cons_zero, List.set_cons_succ]
                    refine wpAnyH_done (by kernel_rfl) ?_ _
                    go_wp2_with fail
                    go_meet
                    rw [← Eb2.out, ← Ed2.out]
                    exact ⟨Q9.out, U9.out⟩
                · go_simp
                  clear hHeld
                  refine hK.out _ _ ⟨B5.out.drew.a, B5.out.drew.c⟩ (fun hHeld => ?_)
                  clear hK K
                  try simp only [Act.put, List.setIfInBounds_toArray, List.set_cons_zero, List.set_cons_succ]
                  refine wpAnyH_ready (rs := [0]) (by kernel_rfl) (by simp) ?_
                  refine AllReadyH.cons rfl (fun K hK => ?_) (AllReadyH.nil)
                  go_simp
                  clear hHeld
                  refine hK.out _ _ ⟨B5.out.drew.a, B5.out.drew.c⟩ (fun hHeld => ?_)
                  clear hK K
                  try simp only [Act.put, List.setIfInBounds_toArray, List.set_cons_zero, List.set_cons_succ]
                  refine wpAnyH_ready (rs := [1]) (by kernel_rfl) (by simp) ?_
                  refine AllReadyH.cons rfl (fun K hK => ?_) (AllReadyH.nil)
                  go_simp
                  refine (HR21.out _ B5.out.drew K5.out.drew).mono ?_; rintro e w51 ⟨rfl, q1, k1⟩
                  have Q1 := Lib.hid q1
                  have U1 := Lib.hid k1
                  clear q1 k1
                  have z13 := Q1.out.d.c0
                  have z11 := Q1.out.b.c0
                  have g13 := Q1.out.d.free 0
                  have g11 := Q1.out.b.free 0
                  clear hHeld
                  refine hK.out _ _ ⟨Q1.out.a, Q1.out.c⟩ (fun hHeld => ?_)
                  clear hK K
                  try simp only [Act.put, List.setIfInBounds_toArray, List.set_cons_zero, List.set_cons_succ]
                  refine takeH (i := 3) (d := some 34) (v := ?_) rfl rfl (by kernel_rfl) (by kernel_rfl) (by kernel_rfl) (fun _ _ _ h => h) (Or.inl ⟨by rfl, ?_⟩) hHeld ?_
                  rotate_left
                  · intro w' hSw; (try dsimp only at hSw); go_simp; try with_reducible rfl
                  simp only [Act.put, List.setIfInBounds_toArray, List.set_cons_zero, List.set_cons_succ]
                  refine wpAnyH_ready (rs := [5]) (by kernel_rfl) (by simp) ?_
                  refine AllReadyH.cons rfl (fun K hK => ?_) (AllReadyH.nil)
                  go_simp
                  refine (HR17.out _ Q1.out U1.out).mono ?_; rintro e w55 ⟨rfl, q5, k5⟩
                  have Q5 := Lib.hid q5
                  have U5 := Lib.hid k5
                  clear q5 k5
                  have z53 := Q5.out.d.c0
                  have z51 := Q5.out.b.c0
                  have g53 := Q5.out.d.free 0
                  have g51 := Q5.out.b.free 0
                  clear hHeld
                  refine hK.out _ _ ⟨Q5.out.a, Q5.out.c⟩ (fun hHeld => ?_)
                  clear hK K
                  try simp only [Act.put, List.setIfInBounds_toArray, List.set_cons_zero, List.set_cons_succ]
                  refine takeH (i := 7) (d := some 38) (v := ?_) rfl rfl (by kernel_rfl) (by kernel_rfl) (by kernel_rfl) (fun _ _ _ h => h) (Or.inl ⟨by rfl, ?_⟩) hHeld ?_
                  rotate_left
                  · intro w' hSw; (try dsimp only at hSw); go_simp; try with_reducible rfl
                  simp only [Act.put, List.setIfInBounds_toArray, List.set_cons_zero, List.set_cons_succ]
                  refine wpAnyH_ready (rs := [8]) (by kernel_rfl) (by simp) ?_
                  refine AllReadyH.cons rfl (fun K hK => ?_) (AllReadyH.nil)
                  go_simp
                  have Q8 := Lib.hid (Q5.out.s3 (bits .xor .u64 (rot d1 21) a3))
                  have U8 := Lib.hid (U5.out.setCell (p := ⟨k + 3, 0, none⟩) (Nat.le_add_right k 3) (.int .u64 (bits .xor .u64 (rot d1 21) a3)))
                  have g81 := Q8.out.b.free 0
                  clear hHeld
                  refine hK.out _ _ ⟨Q8.out.a, Q8.out.c⟩ (fun hHeld => ?_)
                  clear hK K
                  try simp only [Act.put, List.setIfInBounds_toArray, List.set_cons_zero, List.set_cons_succ]
                  refine wpAnyH_ready (rs := [9]) (by kernel_rfl) (by simp) ?_
                  refine AllReadyH.cons rfl (fun K hK => ?_) (AllReadyH.nil)
                  go_simp
                  have Q9 := Lib.hid (Q8.out.s1 (bits .xor .u64 (rot b1 17) c2))
                  have U9 := Lib.hid (U8.out.setCell (p := ⟨k + 1, 0, none⟩) (Nat.le_add_right k 1) (.int .u64 (bits .xor .u64 (rot b1 17) c2)))
                  clear hHeld
                  refine hK.out _ _ ⟨Q9.out.a, Q9.out.c⟩ (fun hHeld => ?_)
                  clear hK K
                  try simp only [Act.put, List.setIfInBounds_toArray, List.set_cons_zero, List.set_cons_succ]
                  refine wpAnyH_done (by kernel_rfl) ?_ _
                  go_wp2_with fail
                  go_meet
                  rw [← Eb2.out, ← Ed2.out]
                  exact ⟨Q9.out, U9.out⟩
              case rest =>
                obtain ⟨hB, hK⟩ := hcut
                have B6 := Lib.hid hB
                have K6 := Lib.hid hK
                clear hB hK B5 K5
                generalize wc = W6 at *
                have x0 := B6.out.a.c0
                have f0 := B6.out.a.free 0
                have x1 := B6.out.b.c0
                have f1 := B6.out.b.free 0
                have x2 := B6.out.c.c0
                have f2 := B6.out.c.free 0
                have x3 := B6.out.d.c0
                have f3 := B6.out.d.free 0
                go_wp2_with fail
                refine (round_any _ 32 _ (by omega)).mono ?_; rintro e w1 ⟨rfl, rfl⟩
                have f9 := B6.out.drew.c.free 0
                go_wp2_with fail
                have Q9 := Lib.hid (B6.out.s2 (rot c2 32)).drew
                have U9 := Lib.hid (K6.out.setCell (p := ⟨k + 2, 0, none⟩) (Nat.le_add_right k 2) (.int .u64 (rot c2 32))).drew
                go_roundw
                case rel => exact ⟨j + 1, by omega, by go_num, by rw [← HF.out, ← Ec3.out]; exact Q9.out, U9.out⟩
                case measure => simp [intOf]; omega
    · have e : j = n := by omega
      subst e
      go_wp2_with fail
      refine bodyPost_end (results_none rfl _ _ _) rfl ?_
      exact ⟨rfl, B1.out, K1.out⟩
end Go.Proofs.YtoococeaanndkaaDoor
