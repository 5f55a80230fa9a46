/-
  The walk of ConnBlind.
-/
import Derived.Test.YtnhcjefbiihfjaaBz
import Derived.Test.YtnhcjefbiihfjaaPd
import Derived.Deep.CutBlock
namespace Go.Proofs.Ytnhcjefbiihfjaa
open Go.RowKit
open Tc (Sg gchk gv gc)
set_option linter.unusedVariables false
set_option linter.unusedSimpArgs false
def airN (x : Nat) (W : World) : Nat := match W.cell? ⟨x, 6, none⟩ with | some (.slice _ n _) => n | _ => 0
theorem airN_eq {w W : World} {L : Pl} {p : Pr} {c e : Cn} (h : PM w L p c e W) : airN L.x W = p.air.length := by
  unfold airN
  obtain ⟨o, g, off, cap, hv, _⟩ := h.row.form
  rw [h.cell 6]
  show (match some L.a with | some (.slice _ n _) => n | _ => 0) = _
  rw [hv]
def sO (x y : Nat) (oa : Nat) (op : Int) (W : World) : Prop := sPx x W ∧ W.cell? ⟨y, 0, none⟩ = some (.int .u32 (oa : Int)) ∧ W.cell? ⟨y, 1, none⟩ = some (.int .i64 op)
set_option maxRecDepth 100000 in
set_option maxHeartbeats 8000000 in
theorem blind_walk (iss irs n : Nat) (win : Int) (oa : Nat) (op : Int) (w : World) (hi : iss < 4294967296) (hj : irs < 4294967296) (hn : n < 4294967296) (hw : -9223372036854775808 ≤ win ∧ win ≤ 9223372036854775807) (ho : oa < 4294967296) (hp : -9223372036854775808 ≤ op ∧ op ≤ 9223372036854775807) :
    Calls Try.prog 4 #[.int .u32 (iss : Int), .int .u32 (irs : Int), .int .u32 (n : Int), .int .i64 win, .agg #[.int .u32 (oa : Int), .int .i64 op]] w fun e w' => e = .returned (.bool true) ∧ Below w.heap.size w w' := by
  have hA : (8 : Int) ≤ 508 ∧ (508 : Int) ≤ 1000 := by decide
  have HP : Hid (∀ W, Calls Try.prog 16 #[.int .u32 (iss : Int), .int .u32 (irs : Int), .agg #[.int .i64 500, .int .i64 500]] W fun e w' => ∃ x b P d Q, e = .returned (.tuple #[ptr x, .bool true]) ∧ PM W ⟨x, .slice none 0 0, b, P, d, Q⟩ pr0 (dialled 1 40000 2 80 iss 508) (taken 2 80 1 40000 irs iss 508 (min 508 508)) w') := fun W => paired_any iss irs 500 500 W hi hj (by decide) (by decide)
  obtain ⟨okd, okt, _, _, _, _, sk1, sk2⟩ := bl_oks hi hj hA hA
  obtain ⟨s1, s2, s3, s4, s5⟩ := bl_start (iss := iss) (irs := irs) hA hA hj
  have f0 : Few 0 := by unfold Few; omega
  have HSa : Hid (∀ {W0 W x a b P d Q}, PM W0 ⟨x, a, b, P, d, Q⟩ pr0 (dialled 1 40000 2 80 iss 508) (taken 2 80 1 40000 irs iss 508 (min 508 508)) W → Calls Try.prog 17 #[ptr x] W fun r w' => r = .returned (.bool true) ∧ ∃ a' P' Q', PM W0 ⟨x, a', b, P', d, Q'⟩ (blP iss irs 508 0) (blC iss irs 508 508 0) (blE iss irs 508 508 0) w') := fun h => by
    have := sends_any h okd okt f0 f0 s4 s5
    rwa [s1, s2, s3] at this
  have HSb : Hid (∀ {W0 W x a b P d Q} (i : Nat), PM W0 ⟨x, a, b, P, d, Q⟩ { blP iss irs 508 i with air := [] } (blC' iss irs 508 508 i) (blE' iss irs 508 508 i) W → Calls Try.prog 17 #[ptr x] W fun r w' => r = .returned (.bool true) ∧ ∃ a' P' Q', PM W0 ⟨x, a', b, P', d, Q'⟩ (blP iss irs 508 (i + 1)) (blC iss irs 508 508 (i + 1)) (blE iss irs 508 508 (i + 1)) w') := fun i h => by
    obtain ⟨_, ⟨k1, hk1, ok1⟩, _, ⟨k2, hk2, ok2⟩⟩ := bl_ok (iss := iss) (irs := irs) (ma := 508) (mb := 508) hi hj hA hA i
    obtain ⟨r1, r2, r3, r4, r5⟩ := bl_round (iss := iss) (irs := irs) (ma := 508) (mb := 508) i rfl
    have := sends_any h ok1 ok2 hk1 hk2 r4 r5
    rwa [r1, r2, r3] at this
  have SK : Hid (SOk (sackSg 2 80 1 40000 irs iss 508) ∧ SOk (ackSg 1 40000 2 80 iss irs)) := ⟨sk1, sk2⟩
  have HOK : Hid (COk 2 (estab 1 40000 2 80 iss irs 508 (min 508 508) 0 false)) := (bl_oks hi hj hA hA).2.2.2.2.1
  have HRt : Hid (∀ W, Calls Try.prog 18 #[.int .i64 win, .int .i64 65536] W fun e w' => e = .returned (.int .i64 (win % 65536)) ∧ w' = W) := fun W => rest_any win 65536 W (by decide) (by decide) hw.1 hw.2
  have hwn : 0 ≤ win % 65536 ∧ win % 65536 ≤ 65535 := by omega
  generalize win % 65536 = wn at *
  have HWn := Lib.hid hwn
  have HI := Lib.hid hi
  have HJ := Lib.hid hj
  have HA := Lib.hid hA
  have HUs := Lib.hid Try.underlying35
  have HN := Lib.hid hn
  have HO := Lib.hid ho
  have HIL : Hid (∀ {w0 L W p c e s g k}, BZ w0 L p c e s g W → COk k c → Few (k + 2) → SOk g → Calls Try.prog 13 #[ptr L.b, gv g] W fun r w' => r = .returned (.int .i64 (c.inE g)) ∧ ∃ P', BZ w0 { L with P := P' } p (c.inC g) e s g w') := fun h ok hk hs =>
    (in_any h.pm.two.ca ok hk hs).mono fun e w' ⟨h1, P', h2, h3⟩ => ⟨h1, P', h.left h2 h3⟩
  have HIR : Hid (∀ {w0 L W p c e s g k}, BZ w0 L p c e s g W → COk k e → Few (k + 2) → SOk g → Calls Try.prog 13 #[ptr L.d, gv g] W fun r w' => r = .returned (.int .i64 (e.inE g)) ∧ ∃ Q', BZ w0 { L with Q := Q' } p c (e.inC g) s g w') := fun h ok hk hs =>
    (in_any h.pm.two.cb ok hk hs).mono fun e w' ⟨h1, P', h2, h3⟩ => ⟨h1, P', h.right h2 h3⟩
  clear okd okt s1 s2 s3 s4 s5 f0 sk1 sk2 hwn hw hi hj hA hn ho hp
  go_enter Try.func4, Try.ntmps4
  go_wp2_with fail
  have hb0 : Below w.heap.size w (w.alloc (.cells #[.int .u32 (oa : Int), .int .i64 op] 24)) := (Below.refl _ _).alloc (Nat.le_refl _) _
  have hx0 : (w.alloc (.cells #[.int .u32 (oa : Int), .int .i64 op] 24)).heap[w.heap.size]? = some (.cells #[.int .u32 (oa : Int), .int .i64 op] 24 (0, 0)) := heap_alloc_new w _
  have hlt0 : w.heap.size < (w.alloc (.cells #[.int .u32 (oa : Int), .int .i64 op] 24)).heap.size := lt_of_heap hx0
  generalize w.alloc (.cells #[.int .u32 (oa : Int), .int .i64 op] 24) = wb at *
  have HSO : Hid (∀ {L p c e W}, PM wb L p c e W → sO L.x w.heap.size oa op W) := fun {L p c e W} h => by
    have hh : W.heap[w.heap.size]? = _ := (h.be.block _ hlt0).trans hx0
    exact ⟨h.sp, Joins.cell_of_block hh 0, Joins.cell_of_block hh 1⟩
  have HFin : Hid (∀ {L p c e W}, PM wb L p c e W → Below w.heap.size w W) := fun h => below_trans hb0 h.be
  clear hb0 hx0 hlt0
  refine (HP.out _).mono ?_; rintro e w1 ⟨x, b, P, d, Q, rfl, m1⟩
  have M1 := Lib.hid m1
  clear m1 HP
  go_wp2_with fail
  refine (HSa.out M1.out).mono ?_; rintro e w2 ⟨rfl, a1, P1, Q1, m2⟩
  have M2 := Lib.hid m2
  clear m2 HSa M1
  go_wp2_with fail
  go_loopw [32] (fun i W => ∃ (k : Nat) (a : Value) (P : Pt) (Q : Pt), k ≤ 6 ∧ i = .int .i64 (k : Int) ∧ Hid (PM wb ⟨x, a, b, P, d, Q⟩ (blP iss irs 508 k) (blC iss irs 508 508 k) (blE iss irs 508 508 k) W)) (fun i _ => 6 - (intOf i).toNat)
  case atStart => exact ⟨0, a1, P1, Q1, by decide, rfl, M2⟩
  case round =>
    obtain ⟨k, a, P2, Q2, hk, rfl, M3⟩ := hrel
    clear M2
    by_cases hk6 : k < 6
    · have d6 : decide ((k : Int) < 6) = true := decide_eq_true (by omega)
      go_wp2_with fail
      go_loopw [] (fun W => ∃ (a' : Value) (P' Q' : Pt), Hid (k < 2 ∧ PM wb ⟨x, a', b, P', d, Q'⟩ (blP iss irs 508 k) (blC iss irs 508 508 k) (blE iss irs 508 508 k) W ∨ PM wb ⟨x, a', b, P', d, Q'⟩ { blP iss irs 508 k with air := [] } (blC' iss irs 508 508 k) (blE' iss irs 508 508 k) W)) (fun W => airN x W)
      case atStart =>
        refine ⟨a, P2, Q2, ?_⟩
        by_cases h2 : k < 2
        · exact Or.inl ⟨h2, M3.out⟩
        · refine Or.inr ?_
          have m := M3.out
          rcases k with _ | _ | k
          · omega
          · omega
          · exact m
      case round =>
        obtain ⟨a', P3, Q3, HR⟩ := hrel
        clear M3
        rcases HR.out with ⟨hk2, m3⟩ | m3
        · clear HR
          rcases k with _ | _ | k
          · have hm : airN x wr = 1 := by
              have := airN_eq m3
              rw [show (blP iss irs 508 0).air = [sackSg 2 80 1 40000 irs iss 508] from blP_air 0] at this
              exact this
            have hrow := m3.row
            rw [show (blP iss irs 508 0).air = [sackSg 2 80 1 40000 irs iss 508] from blP_air 0] at hrow
            obtain ⟨g, off, cap, hav, hc1, hrg, hnx, hny⟩ := one_form hrow
            clear hrow
            dsimp only at hav
            subst hav
            have M3 := Lib.hid m3
            have v6 := m3.cell 6
            have RR := Lib.hid hrg
            have NX := Lib.hid hnx
            have NY := Lib.hid hny
            have OK1 : Hid (COk 0 (blC iss irs 508 508 0)) := (bl_oks HI.out HJ.out HA.out HA.out).1
            have HF : Hid ((blC iss irs 508 508 0).inC (sackSg 2 80 1 40000 irs iss 508) = blC' iss irs 508 508 0) := (bl_first (iss := iss) (irs := irs) HA.out HA.out).1
            have X3 : Hid (BZ wb ⟨x, .slice (some ⟨g, off, none⟩) 1 cap, b, P3, d, Q3⟩ (blP iss irs 508 0) (blC iss irs 508 508 0) (blE iss irs 508 508 0) wr.heap.size (sackSg 2 80 1 40000 irs iss 508) ((wr.alloc (.cells gzc 35)).setCells wr.heap.size 0 (gcl (sackSg 2 80 1 40000 irs iss 508)))) := (BZ.new m3).put _
            have GB0 := Lib.hid (seg0 wr)
            have hna := X3.out.na
            clear hnx hny hrg m3
            generalize hq : sackSg 2 80 1 40000 irs iss 508 = q at *
            have q2 : q.da = 1 := by rw [← hq]; rfl
            have q3 : q.dp = 40000 := by rw [← hq]; rfl
            clear hq
            go_upto_region 8 with (first | (refine wpList_load_mid rfl 35 _ rfl g off rfl (gcl q) _ RR.out HUs.out rfl infoSeg ?_) | (refine wpList_store_mid rfl 35 _ _ rfl wr.heap.size 0 (gc q) rfl rfl (GB.there GB0.out) infoSeg (gc_one' q) ?_))
            have NX : Hid (ORow ((wr.alloc (.cells gzc 35)).setCells wr.heap.size 0 (gcl q)) wb.heap.size (.slice (some ⟨g, off + 13, none⟩) 0 (cap - 1)) []) := NX.out.on (segAt_be wr q)
            have NY : Hid (ORow ((wr.alloc (.cells gzc 35)).setCells wr.heap.size 0 (gcl q)) wb.heap.size (.slice (some ⟨g, off, none⟩) 0 0) []) := NY.out.on (segAt_be wr q)
            generalize (wr.alloc (.cells gzc 35)).setCells wr.heap.size 0 (gcl q) = W4 at *
            generalize wr.heap.size = yq at *
            clear GB0 RR M3 v6
            have v6 : W4.cell? ⟨x, 6, none⟩ = some (.slice (some ⟨g, off, none⟩) 1 cap) := X3.out.pm.cell 6
            have f6 : W4.frozen? ⟨x, 6, none⟩ = false := X3.out.pm.free 6
            simp only [Act.put]
            go_cut [] from 34 to 53 (fun W => ∃ a2 : Value, Hid (BZ wb ⟨x, a2, b, P3, d, Q3⟩ { blP iss irs 508 0 with air := [] } (blC iss irs 508 508 0) (blE iss irs 508 508 0) yq q W))
            case first =>
              go_wp2_with fail
              all_goals go_meet
              all_goals first | exact ⟨_, X3.out.setAir NX.out (fun k hk => hna k hk)⟩ | exact ⟨_, X3.out.setAir NY.out (fun k hk => hna k hk)⟩
            obtain ⟨a2, X5⟩ := hcut
            clear X3 NX NY v6 f6 hna
            generalize wc = W5 at *
            have y2 := X5.out.gb.c2
            have y3 := X5.out.gb.c3
            rw [q2] at y2
            rw [q3] at y3
            have x4 : W5.cell? ⟨x, 4, none⟩ = some (.int .u32 2) := X5.out.pm.cell 4
            have x5 : W5.cell? ⟨x, 5, none⟩ = some (.int .i64 80) := X5.out.pm.cell 5
            go_wp2_with fail
            go_quiet (fail)
            have X6 := Lib.hid (X5.out.keep (below_drewN W5 nq))
            clear y2 y3 x4 x5 X5
            generalize W5.drewN nq = W6 at *
            go_upto_region 12 with fail
            refine wp_region_held_drew (S := (fun W' => W'.cell? ⟨x, 0, none⟩ = some (ptr b) ∧ Tc.GB yq q W')) (by kernel_rfl) ⟨X6.out.pm.drew'.cell 0, X6.out.drew.gb⟩ (fun hHeld => ?_)
            refine takeH (i := 0) (d := some 62) (v := ?_) rfl rfl (by kernel_rfl) (by kernel_rfl) (by kernel_rfl) (fun _ _ _ h => h) (Or.inl ⟨by rfl, ?_⟩) hHeld ?_
            rotate_left
            · intro w' hSw; (try dsimp only at hSw); go_simp; try with_reducible rfl
            simp only [Act.put, List.setIfInBounds_toArray, List.set_cons_zero, List.set_cons_succ]
            refine takeH (i := 1) (d := some 63) (v := ?_) rfl rfl (by kernel_rfl) (by kernel_rfl) (by kernel_rfl) (fun _ _ _ h => h) (Or.inl ⟨by rfl, ?_⟩) hHeld ?_
            rotate_left
            · intro w' hSw; (try dsimp only at hSw); go_simp; try with_reducible rfl
            simp only [Act.put, List.setIfInBounds_toArray, List.set_cons_zero, List.set_cons_succ]
            refine takeH (i := 2) (d := some 64) (v := ?_) rfl rfl (by kernel_rfl) (by kernel_rfl) (by kernel_rfl) (fun _ _ _ h => h) (Or.inl ⟨by rfl, ?_⟩) hHeld ?_
            rotate_left
            · intro w' hSw; (try dsimp only at hSw); go_simp; try with_reducible rfl
            simp only [Act.put, List.setIfInBounds_toArray, List.set_cons_zero, List.set_cons_succ]
            refine takeH (i := 3) (d := some 65) (v := ?_) rfl rfl (by kernel_rfl) (by kernel_rfl) (by kernel_rfl) (fun _ _ _ h => h) (Or.inl ⟨by rfl, ?_⟩) hHeld ?_
            rotate_left
            · intro w' hSw; (try dsimp only at hSw); go_simp; try with_reducible rfl
            simp only [Act.put, List.setIfInBounds_toArray, List.set_cons_zero, List.set_cons_succ]
            refine takeH (i := 4) (d := some 66) (v := ?_) rfl rfl (by kernel_rfl) (by kernel_rfl) (by kernel_rfl) (fun _ _ _ h => h) (Or.inl ⟨by rfl, ?_⟩) hHeld ?_
            rotate_left
            · intro w' hSw; (try dsimp only at hSw); go_simp; try with_reducible rfl
            simp only [Act.put, List.setIfInBounds_toArray, List.set_cons_zero, List.set_cons_succ]
            refine takeH (i := 5) (d := some 67) (v := ?_) rfl rfl (by kernel_rfl) (by kernel_rfl) (by kernel_rfl) (fun _ _ _ h => h) (Or.inl ⟨by rfl, ?_⟩) hHeld ?_
            rotate_left
            · intro w' hSw; (try dsimp only at hSw); have q1 := hSw.1; go_simp; try with_reducible rfl
            simp only [Act.put, List.setIfInBounds_toArray, List.set_cons_zero, List.set_cons_succ]
            refine takeH (i := 6) (d := some 68) rfl rfl (by kernel_rfl) (by kernel_rfl) (by kernel_rfl) (fun _ _ _ h => h) (yieldsIf_load_mid (by rfl) _ _ rfl _ _ rfl (gcl q) _ (fun w' hSw => GB.range hSw.2) HUs.out rfl infoSeg) hHeld ?_
            simp only [Act.put, List.setIfInBounds_toArray, List.set_cons_zero, List.set_cons_succ]
            refine wpAnyH_ready (rs := [7]) (by kernel_rfl) (by simp) ?_
            refine AllReadyH.cons rfl (fun K hK => ?_) (AllReadyH.nil)
            go_simp
            refine (HIL.out X6.out.drew OK1.out (by unfold Few; omega) SK.out.1).mono ?_; rintro e' w7 ⟨rfl, P4, m7⟩
            rw [HF.out] at m7
            have M7 := Lib.hid m7
            clear m7
            clear hHeld
            refine hK.out _ _ ⟨M7.out.pm.cell 0, M7.out.gb⟩ (fun hHeld => ?_)
            clear hK K
            try simp only [Act.put, List.setIfInBounds_toArray, List.set_cons_zero, List.set_cons_succ]
            refine wpAnyH_done (by kernel_rfl) ?_ _
            clear hHeld
            go_wp2_with fail
            clear X6
            go_roundw
            case rel => exact ⟨_, _, _, Or.inr M7.out.pm⟩
            case measure => first | (rw [hm, airN_eq M7.out.pm]; decide) | exact airN_eq M7.out.pm
          · have hm : airN x wr = 1 := by
              have := airN_eq m3
              rw [show (blP iss irs 508 1).air = [ackSg 1 40000 2 80 iss irs] from blP_air 1] at this
              exact this
            simp only [Nat.zero_add] at *
            have hrow := m3.row
            rw [show (blP iss irs 508 1).air = [ackSg 1 40000 2 80 iss irs] from blP_air 1] at hrow
            obtain ⟨g, off, cap, hav, hc1, hrg, hnx, hny⟩ := one_form hrow
            clear hrow
            dsimp only at hav
            subst hav
            have M3 := Lib.hid m3
            have v6 := m3.cell 6
            have RR := Lib.hid hrg
            have NX := Lib.hid hnx
            have NY := Lib.hid hny
            have OK1 : Hid (COk 0 (blE iss irs 508 508 1)) := (bl_oks HI.out HJ.out HA.out HA.out).2.2.1
            have HF : Hid ((blE iss irs 508 508 1).inC (ackSg 1 40000 2 80 iss irs) = blE' iss irs 508 508 1) := (bl_first (iss := iss) (irs := irs) HA.out HA.out).2
            have X3 : Hid (BZ wb ⟨x, .slice (some ⟨g, off, none⟩) 1 cap, b, P3, d, Q3⟩ (blP iss irs 508 1) (blC iss irs 508 508 1) (blE iss irs 508 508 1) wr.heap.size (ackSg 1 40000 2 80 iss irs) ((wr.alloc (.cells gzc 35)).setCells wr.heap.size 0 (gcl (ackSg 1 40000 2 80 iss irs)))) := (BZ.new m3).put _
            have GB0 := Lib.hid (seg0 wr)
            have hna := X3.out.na
            clear hnx hny hrg m3
            generalize hq : ackSg 1 40000 2 80 iss irs = q at *
            have q2 : q.da = 2 := by rw [← hq]; rfl
            have q3 : q.dp = 80 := by rw [← hq]; rfl
            clear hq
            go_upto_region 8 with (first | (refine wpList_load_mid rfl 35 _ rfl g off rfl (gcl q) _ RR.out HUs.out rfl infoSeg ?_) | (refine wpList_store_mid rfl 35 _ _ rfl wr.heap.size 0 (gc q) rfl rfl (GB.there GB0.out) infoSeg (gc_one' q) ?_))
            have NX : Hid (ORow ((wr.alloc (.cells gzc 35)).setCells wr.heap.size 0 (gcl q)) wb.heap.size (.slice (some ⟨g, off + 13, none⟩) 0 (cap - 1)) []) := NX.out.on (segAt_be wr q)
            have NY : Hid (ORow ((wr.alloc (.cells gzc 35)).setCells wr.heap.size 0 (gcl q)) wb.heap.size (.slice (some ⟨g, off, none⟩) 0 0) []) := NY.out.on (segAt_be wr q)
            generalize (wr.alloc (.cells gzc 35)).setCells wr.heap.size 0 (gcl q) = W4 at *
            generalize wr.heap.size = yq at *
            clear GB0 RR M3 v6
            have v6 : W4.cell? ⟨x, 6, none⟩ = some (.slice (some ⟨g, off, none⟩) 1 cap) := X3.out.pm.cell 6
            have f6 : W4.frozen? ⟨x, 6, none⟩ = false := X3.out.pm.free 6
            simp only [Act.put]
            go_cut [] from 34 to 53 (fun W => ∃ a2 : Value, Hid (BZ wb ⟨x, a2, b, P3, d, Q3⟩ { blP iss irs 508 1 with air := [] } (blC iss irs 508 508 1) (blE iss irs 508 508 1) yq q W))
            case first =>
              go_wp2_with fail
              all_goals go_meet
              all_goals first | exact ⟨_, X3.out.setAir NX.out (fun k hk => hna k hk)⟩ | exact ⟨_, X3.out.setAir NY.out (fun k hk => hna k hk)⟩
            obtain ⟨a2, X5⟩ := hcut
            clear X3 NX NY v6 f6 hna
            generalize wc = W5 at *
            have y2 := X5.out.gb.c2
            have y3 := X5.out.gb.c3
            rw [q2] at y2
            rw [q3] at y3
            have x4 : W5.cell? ⟨x, 4, none⟩ = some (.int .u32 2) := X5.out.pm.cell 4
            have x5 : W5.cell? ⟨x, 5, none⟩ = some (.int .i64 80) := X5.out.pm.cell 5
            go_wp2_with fail
            go_quiet (fail)
            have X6 := Lib.hid (X5.out.keep (below_drewN W5 nq))
            clear y2 y3 x4 x5 X5
            generalize W5.drewN nq = W6 at *
            go_upto_region 12 with fail
            refine wp_region_held_drew (S := (fun W' => W'.cell? ⟨x, 1, none⟩ = some (ptr d) ∧ Tc.GB yq q W')) (by kernel_rfl) ⟨X6.out.pm.drew'.cell 1, X6.out.drew.gb⟩ (fun hHeld => ?_)
            refine takeH (i := 0) (d := some 62) (v := ?_) rfl rfl (by kernel_rfl) (by kernel_rfl) (by kernel_rfl) (fun _ _ _ h => h) (Or.inl ⟨by rfl, ?_⟩) hHeld ?_
            rotate_left
            · intro w' hSw; (try dsimp only at hSw); go_simp; try with_reducible rfl
            simp only [Act.put, List.setIfInBounds_toArray, List.set_cons_zero, List.set_cons_succ]
            refine takeH (i := 1) (d := some 63) (v := ?_) rfl rfl (by kernel_rfl) (by kernel_rfl) (by kernel_rfl) (fun _ _ _ h => h) (Or.inl ⟨by rfl, ?_⟩) hHeld ?_
            rotate_left
            · intro w' hSw; (try dsimp only at hSw); go_simp; try with_reducible rfl
            simp only [Act.put, List.setIfInBounds_toArray, List.set_cons_zero, List.set_cons_succ]
            refine takeH (i := 2) (d := some 64) (v := ?_) rfl rfl (by kernel_rfl) (by kernel_rfl) (by kernel_rfl) (fun _ _ _ h => h) (Or.inl ⟨by rfl, ?_⟩) hHeld ?_
            rotate_left
            · intro w' hSw; (try dsimp only at hSw); go_simp; try with_reducible rfl
            simp only [Act.put, List.setIfInBounds_toArray, List.set_cons_zero, List.set_cons_succ]
            refine takeH (i := 3) (d := some 65) (v := ?_) rfl rfl (by kernel_rfl) (by kernel_rfl) (by kernel_rfl) (fun _ _ _ h => h) (Or.inl ⟨by rfl, ?_⟩) hHeld ?_
            rotate_left
            · intro w' hSw; (try dsimp only at hSw); go_simp; try with_reducible rfl
            simp only [Act.put, List.setIfInBounds_toArray, List.set_cons_zero, List.set_cons_succ]
            refine takeH (i := 4) (d := some 66) (v := ?_) rfl rfl (by kernel_rfl) (by kernel_rfl) (by kernel_rfl) (fun _ _ _ h => h) (Or.inl ⟨by rfl, ?_⟩) hHeld ?_
            rotate_left
            · intro w' hSw; (try dsimp only at hSw); go_simp; try with_reducible rfl
            simp only [Act.put, List.setIfInBounds_toArray, List.set_cons_zero, List.set_cons_succ]
            refine takeH (i := 5) (d := some 67) (v := ?_) rfl rfl (by kernel_rfl) (by kernel_rfl) (by kernel_rfl) (fun _ _ _ h => h) (Or.inl ⟨by rfl, ?_⟩) hHeld ?_
            rotate_left
            · intro w' hSw; (try dsimp only at hSw); have q1 := hSw.1; go_simp; try with_reducible rfl
            simp only [Act.put, List.setIfInBounds_toArray, List.set_cons_zero, List.set_cons_succ]
            refine takeH (i := 6) (d := some 68) rfl rfl (by kernel_rfl) (by kernel_rfl) (by kernel_rfl) (fun _ _ _ h => h) (yieldsIf_load_mid (by rfl) _ _ rfl _ _ rfl (gcl q) _ (fun w' hSw => GB.range hSw.2) HUs.out rfl infoSeg) hHeld ?_
            simp only [Act.put, List.setIfInBounds_toArray, List.set_cons_zero, List.set_cons_succ]
            refine wpAnyH_ready (rs := [7]) (by kernel_rfl) (by simp) ?_
            refine AllReadyH.cons rfl (fun K hK => ?_) (AllReadyH.nil)
            go_simp
            refine (HIR.out X6.out.drew OK1.out (by unfold Few; omega) SK.out.2).mono ?_; rintro e' w7 ⟨rfl, Q4, m7⟩
            rw [HF.out] at m7
            have M7 := Lib.hid m7
            clear m7
            clear hHeld
            refine hK.out _ _ ⟨M7.out.pm.cell 1, M7.out.gb⟩ (fun hHeld => ?_)
            clear hK K
            try simp only [Act.put, List.setIfInBounds_toArray, List.set_cons_zero, List.set_cons_succ]
            refine wpAnyH_done (by kernel_rfl) ?_ _
            clear hHeld
            go_wp2_with fail
            clear X6
            go_roundw
            case rel => exact ⟨_, _, _, Or.inr M7.out.pm⟩
            case measure => first | (rw [hm, airN_eq M7.out.pm]; decide) | exact airN_eq M7.out.pm
          · exact absurd hk2 (by omega)
        · clear HR
          obtain ⟨o, cap, hav⟩ := nil_form m3.row
          dsimp only at hav
          subst hav
          have v6 := m3.cell 6
          have M4 := Lib.hid m3
          clear m3
          go_wp2_with fail
          refine (HSb.out k M4.out).mono ?_; rintro e w5 ⟨rfl, a5, P5, Q5, m5⟩
          have M5 := Lib.hid m5
          clear m5 M4
          go_wp2_with fail
          go_roundw
          case rel => exact ⟨k + 1, a5, P5, Q5, by omega, by simp, M5⟩
          case measure => simp [intOf]; omega
    · have d6 : decide ((k : Int) < 6) = false := decide_eq_false (by omega)
      obtain rfl : k = 6 := by omega
      have v0 : _ = some (ptr b) := M3.out.cell 0
      have HE : Hid (blC iss irs 508 508 6 = estab 1 40000 2 80 iss irs 508 (min 508 508) 0 false) := rfl
      rw [HE.out] at M3
      generalize blP iss irs 508 6 = p6 at *
      generalize blE iss irs 508 508 6 = e6 at *
      clear HE SK HSb
      have HSt : Hid (∀ {L W p c e}, PM wb L p c e W → Calls Try.prog 6 #[ptr L.b] W fun r w' => r = .returned (.int .i64 c.st) ∧ w' = W) := fun h => state_any h.two.ca
      have HWy : Hid (∀ {L W p c e}, PM wb L p c e W → Calls Try.prog 7 #[ptr L.b] W fun r w' => r = .returned (.int .i64 c.why) ∧ w' = W) := fun h => why_any h.two.ca
      go_wp2_with fail
      refine (HSt.out M3.out).mono ?_; rintro e w5 ⟨rfl, rfl⟩
      have hE3 : (estab 1 40000 2 80 iss irs 508 (min 508 508) 0 false).st = 3 := rfl
      rw [hE3]
      go_wp2_with fail
      refine (HRt.out _).mono ?_; rintro e w6 ⟨rfl, rfl⟩
      go_wp2_with fail
      clear v0
      go_cut [16] from 84 to 96 (fun s W => s = ptr w6.heap.size ∧ Hid (BZ wb ⟨x, a, b, P2, d, Q2⟩ p6 (estab 1 40000 2 80 iss irs 508 (min 508 508) 0 false) e6 w6.heap.size (rsB n wn) W))
      case first =>
        refine wp_region_held_drew (S := (sPx x)) (by kernel_rfl) M3.out.drew'.sp (fun hHeld => ?_)
        refine takeH (i := 0) (d := some 84) (v := ?_) rfl rfl (by kernel_rfl) (by kernel_rfl) (by kernel_rfl) (fun _ _ _ h => h) (Or.inl ⟨by rfl, ?_⟩) hHeld ?_
        rotate_left
        · intro w' hSw; (try dsimp only at hSw); go_simp; try with_reducible rfl
        simp only [Act.put, List.setIfInBounds_toArray, List.set_cons_zero, List.set_cons_succ]
        refine takeH (i := 1) (d := some 85) (v := ?_) rfl rfl (by kernel_rfl) (by kernel_rfl) (by kernel_rfl) (fun _ _ _ h => h) (Or.inl ⟨by rfl, ?_⟩) hHeld ?_
        rotate_left
        · intro w' hSw; (try dsimp only at hSw); go_simp; try with_reducible rfl
        simp only [Act.put, List.setIfInBounds_toArray, List.set_cons_zero, List.set_cons_succ]
        refine takeH (i := 2) (d := some 86) (v := ?_) rfl rfl (by kernel_rfl) (by kernel_rfl) (by kernel_rfl) (fun _ _ _ h => h) (Or.inl ⟨by rfl, ?_⟩) hHeld ?_
        rotate_left
        · intro w' hSw; (try dsimp only at hSw); go_simp; try with_reducible rfl
        simp only [Act.put, List.setIfInBounds_toArray, List.set_cons_zero, List.set_cons_succ]
        refine takeH (i := 3) (d := some 87) (v := ?_) rfl rfl (by kernel_rfl) (by kernel_rfl) (by kernel_rfl) (fun _ _ _ h => h) (Or.inl ⟨by rfl, ?_⟩) hHeld ?_
        rotate_left
        · intro w' hSw; (try dsimp only at hSw); go_simp; try with_reducible rfl
        simp only [Act.put, List.setIfInBounds_toArray, List.set_cons_zero, List.set_cons_succ]
        refine takeH (i := 4) (d := some 88) (v := ?_) rfl rfl (by kernel_rfl) (by kernel_rfl) (by kernel_rfl) (fun _ _ _ h => h) (Or.inl ⟨by rfl, ?_⟩) hHeld ?_
        rotate_left
        · intro w' hSw; (try dsimp only at hSw); obtain ⟨q1, q2, q3, q4⟩ := hSw; go_simp; try with_reducible rfl
        simp only [Act.put, List.setIfInBounds_toArray, List.set_cons_zero, List.set_cons_succ]
        refine takeH (i := 5) (d := some 89) (v := ?_) rfl rfl (by kernel_rfl) (by kernel_rfl) (by kernel_rfl) (fun _ _ _ h => h) (Or.inl ⟨by rfl, ?_⟩) hHeld ?_
        rotate_left
        · intro w' hSw; (try dsimp only at hSw); go_simp; try with_reducible rfl
        simp only [Act.put, List.setIfInBounds_toArray, List.set_cons_zero, List.set_cons_succ]
        refine takeH (i := 6) (d := some 90) (v := ?_) rfl rfl (by kernel_rfl) (by kernel_rfl) (by kernel_rfl) (fun _ _ _ h => h) (Or.inl ⟨by rfl, ?_⟩) hHeld ?_
        rotate_left
        · intro w' hSw; (try dsimp only at hSw); go_simp; try with_reducible rfl
        simp only [Act.put, List.setIfInBounds_toArray, List.set_cons_zero, List.set_cons_succ]
        refine takeH (i := 7) (d := some 91) (v := ?_) rfl rfl (by kernel_rfl) (by kernel_rfl) (by kernel_rfl) (fun _ _ _ h => h) (Or.inl ⟨by rfl, ?_⟩) hHeld ?_
        rotate_left
        · intro w' hSw; (try dsimp only at hSw); go_simp; try with_reducible rfl
        simp only [Act.put, List.setIfInBounds_toArray, List.set_cons_zero, List.set_cons_succ]
        refine takeH (i := 8) (d := some 92) (v := ?_) rfl rfl (by kernel_rfl) (by kernel_rfl) (by kernel_rfl) (fun _ _ _ h => h) (Or.inl ⟨by rfl, ?_⟩) hHeld ?_
        rotate_left
        · intro w' hSw; (try dsimp only at hSw); go_simp; try with_reducible rfl
        simp only [Act.put, List.setIfInBounds_toArray, List.set_cons_zero, List.set_cons_succ]
        refine takeH (i := 9) (d := some 93) (v := ?_) rfl rfl (by kernel_rfl) (by kernel_rfl) (by kernel_rfl) (fun _ _ _ h => h) (Or.inl ⟨by rfl, ?_⟩) hHeld ?_
        rotate_left
        · intro w' hSw; (try dsimp only at hSw); obtain ⟨q1, q2, q3, q4⟩ := hSw; go_simp; try with_reducible rfl
        simp only [Act.put, List.setIfInBounds_toArray, List.set_cons_zero, List.set_cons_succ]
        refine takeH (i := 10) (d := some 94) (v := ?_) rfl rfl (by kernel_rfl) (by kernel_rfl) (by kernel_rfl) (fun _ _ _ h => h) (Or.inl ⟨by rfl, ?_⟩) hHeld ?_
        rotate_left
        · intro w' hSw; (try dsimp only at hSw); go_simp; try with_reducible rfl
        simp only [Act.put, List.setIfInBounds_toArray, List.set_cons_zero, List.set_cons_succ]
        refine takeH (i := 11) (d := some 95) (v := ?_) rfl rfl (by kernel_rfl) (by kernel_rfl) (by kernel_rfl) (fun _ _ _ h => h) (Or.inl ⟨by rfl, ?_⟩) hHeld ?_
        rotate_left
        · intro w' hSw; (try dsimp only at hSw); go_simp; try with_reducible rfl
        simp only [Act.put, List.setIfInBounds_toArray, List.set_cons_zero, List.set_cons_succ]
        refine takeH (i := 12) (d := some 96) (v := ?_) rfl rfl (by kernel_rfl) (by kernel_rfl) (by kernel_rfl) (fun _ _ _ h => h) (Or.inl ⟨by rfl, ?_⟩) hHeld ?_
        rotate_left
        · intro w' hSw; (try dsimp only at hSw); go_simp; try with_reducible rfl
        simp only [Act.put, List.setIfInBounds_toArray, List.set_cons_zero, List.set_cons_succ]
        refine wpAnyH_ready (rs := [13]) (by kernel_rfl) (by simp) ?_
        refine AllReadyH.cons rfl (fun K hK => ?_) (AllReadyH.nil)
        go_simp
        have Z1 := Lib.hid (BZ.new M3.out.drew')
        clear hHeld
        refine hK.out _ _ Z1.out.pm.sp (fun hHeld => ?_)
        clear hK K
        try simp only [Act.put, List.setIfInBounds_toArray, List.set_cons_zero, List.set_cons_succ]
        refine wpAnyH_ready (rs := [14]) (by kernel_rfl) (by simp) ?_
        refine AllReadyH.cons rfl (fun K hK => ?_) (AllReadyH.nil)
        rw [if_pos (by rfl)]
        refine wp_store_mid _ _ _ rfl _ _ (gc (rsB n wn)) rfl rfl (GB.there Z1.out.gb) infoSeg (gc_one' _) ?_
        have Z2 := Lib.hid (Z1.out.put (rsB n wn))
        clear hHeld
        refine hK.out _ _ Z2.out.pm.sp (fun hHeld => ?_)
        clear hK K
        try simp only [Act.put, List.setIfInBounds_toArray, List.set_cons_zero, List.set_cons_succ]
        refine wpAnyH_done (by kernel_rfl) ?_ _
        go_wp2_with fail
        go_meet
        exact ⟨rfl, Z2⟩
      obtain ⟨rfl, Z3⟩ := hcut
      generalize w6.heap.size = s0 at *
      clear M3
      have hnm : ((Cn.nm irs 1 : Nat) : Int) = ((irs : Int) + 1) % 4294967296 := nm_cast irs 1
      have HW1 : Hid (IntKind.u32.wrap ((irs : Int) + 1) = ((Cn.nm irs 1 : Nat) : Int)) := (show IntKind.u32.wrap ((irs : Int) + 1) = ((irs : Int) + 1) % 4294967296 from by first | rfl | simp [IntKind.wrap]).trans hnm.symm
      have sk1 : Hid (SOk (rsB n wn)) := ⟨by show 2 < 4294967296; decide, by show 1 < 4294967296; decide, HN.out, by show 0 < 4294967296; decide⟩
      have sk2 : Hid (SOk (syB n wn)) := ⟨by show 2 < 4294967296; decide, by show 1 < 4294967296; decide, HN.out, by show 0 < 4294967296; decide⟩
      have sk3 : Hid (SOk (otB oa op (Cn.nm irs 1))) := ⟨HO.out, by show 1 < 4294967296; decide, nm_lt irs 1, by show 0 < 4294967296; decide⟩
      by_cases hn1 : (n : Int) = ((irs : Int) + 1) % 4294967296
      · have HH : Hid ((estab 1 40000 2 80 iss irs 508 (min 508 508) 0 false).inE (rsB n wn) = 0 ∧ ((estab 1 40000 2 80 iss irs 508 (min 508 508) 0 false).inC (rsB n wn)).st = 0 ∧ ((estab 1 40000 2 80 iss irs 508 (min 508 508) 0 false).inC (rsB n wn)).why = 12) := by
          have hn2 : n = Cn.nm irs 1 := by omega
          rw [hn2]; exact bl_hit HWn.out
        have e1 : ((n : Int) == ((irs : Int) + 1) % 4294967296) = true := by rw [beq_iff_eq]; exact hn1
        clear hn1 hnm
        go_wp2_with (refine wpList_load_mid rfl 35 _ rfl s0 0 rfl (gcl (rsB n wn)) _ (GB.range Z3.out.gb) HUs.out rfl infoSeg ?_)
        refine (HIL.out Z3.out HOK.out (by unfold Few; omega) sk1.out).mono ?_; rintro e w8 ⟨rfl, P8, z8⟩
        have Z8 := Lib.hid z8
        clear z8
        rw [HH.out.1]
        go_wp2_with fail
        refine (HSt.out Z8.out.pm).mono ?_; rintro e w9 ⟨rfl, rfl⟩
        rw [HH.out.2.1]
        go_wp2_with fail
        refine (HWy.out Z8.out.pm).mono ?_; rintro e w10 ⟨rfl, rfl⟩
        rw [HH.out.2.2]
        go_wp2_with fail
        go_ret
        exact ⟨rfl, HFin.out Z8.out.pm⟩
      · have hn2 : n ≠ Cn.nm irs 1 := fun h => hn1 (by rw [h]; exact hnm)
        clear hnm
        obtain ⟨⟨a1, a2⟩, ⟨b1, b2⟩, hou⟩ := bl_miss (iss := iss) (irs := irs) (told := 508) (mss := min 508 508) (wp := 0) HWn.out hn2 rfl
        have OK1 : Hid (COk 4 ((estab 1 40000 2 80 iss irs 508 (min 508 508) 0 false).inC (rsB n wn))) := HOK.out.inC sk1.out
        have OK2 : Hid (COk 6 (((estab 1 40000 2 80 iss irs 508 (min 508 508) 0 false).inC (rsB n wn)).inC (syB n wn))) := OK1.out.inC sk2.out
        have HOt := Lib.hid (bl_other b2 hou oa op (Cn.nm irs 1))
        have A1 := Lib.hid a1
        have A2 := Lib.hid a2
        have B1 := Lib.hid b1
        have B2 := Lib.hid b2
        clear a1 a2 b1 b2 hou hn2
        have e1 : ((n : Int) == ((irs : Int) + 1) % 4294967296) = false := by rw [beq_eq_false_iff_ne]; exact hn1
        clear hn1
        go_wp2_with (refine wpList_load_mid rfl 35 _ rfl s0 0 rfl (gcl (rsB n wn)) _ (GB.range Z3.out.gb) HUs.out rfl infoSeg ?_)
        refine (HIL.out Z3.out HOK.out (by unfold Few; omega) sk1.out).mono ?_; rintro e w8 ⟨rfl, P8, z8⟩
        have Z4 := Lib.hid z8
        clear z8 Z3
        rw [A1.out]
        generalize (estab 1 40000 2 80 iss irs 508 (min 508 508) 0 false).inC (rsB n wn) = c1 at *
        go_wp2_with fail
        refine (HSt.out Z4.out.pm).mono ?_; rintro e w9 ⟨rfl, rfl⟩
        rw [A2.out]
        go_wp2_with fail
        go_cut [] from 124 to 136 (fun W => Hid (BZ wb ⟨x, a, b, P8, d, Q2⟩ p6 c1 e6 s0 (syB n wn) W))
        case first =>
          refine wp_region_held_drew (S := (sPx x)) (by kernel_rfl) Z4.out.drew.pm.sp (fun hHeld => ?_)
          refine takeH (i := 0) (d := some 124) (v := ?_) rfl rfl (by kernel_rfl) (by kernel_rfl) (by kernel_rfl) (fun _ _ _ h => h) (Or.inl ⟨by rfl, ?_⟩) hHeld ?_
          rotate_left
          · intro w' hSw; (try dsimp only at hSw); go_simp; try with_reducible rfl
          simp only [Act.put, List.setIfInBounds_toArray, List.set_cons_zero, List.set_cons_succ]
          refine takeH (i := 1) (d := some 125) (v := ?_) rfl rfl (by kernel_rfl) (by kernel_rfl) (by kernel_rfl) (fun _ _ _ h => h) (Or.inl ⟨by rfl, ?_⟩) hHeld ?_
          rotate_left
          · intro w' hSw; (try dsimp only at hSw); go_simp; try with_reducible rfl
          simp only [Act.put, List.setIfInBounds_toArray, List.set_cons_zero, List.set_cons_succ]
          refine takeH (i := 2) (d := some 126) (v := ?_) rfl rfl (by kernel_rfl) (by kernel_rfl) (by kernel_rfl) (fun _ _ _ h => h) (Or.inl ⟨by rfl, ?_⟩) hHeld ?_
          rotate_left
          · intro w' hSw; (try dsimp only at hSw); go_simp; try with_reducible rfl
          simp only [Act.put, List.setIfInBounds_toArray, List.set_cons_zero, List.set_cons_succ]
          refine takeH (i := 3) (d := some 127) (v := ?_) rfl rfl (by kernel_rfl) (by kernel_rfl) (by kernel_rfl) (fun _ _ _ h => h) (Or.inl ⟨by rfl, ?_⟩) hHeld ?_
          rotate_left
          · intro w' hSw; (try dsimp only at hSw); go_simp; try with_reducible rfl
          simp only [Act.put, List.setIfInBounds_toArray, List.set_cons_zero, List.set_cons_succ]
          refine takeH (i := 4) (d := some 128) (v := ?_) rfl rfl (by kernel_rfl) (by kernel_rfl) (by kernel_rfl) (fun _ _ _ h => h) (Or.inl ⟨by rfl, ?_⟩) hHeld ?_
          rotate_left
          · intro w' hSw; (try dsimp only at hSw); obtain ⟨q1, q2, q3, q4⟩ := hSw; go_simp; try with_reducible rfl
          simp only [Act.put, List.setIfInBounds_toArray, List.set_cons_zero, List.set_cons_succ]
          refine takeH (i := 5) (d := some 129) (v := ?_) rfl rfl (by kernel_rfl) (by kernel_rfl) (by kernel_rfl) (fun _ _ _ h => h) (Or.inl ⟨by rfl, ?_⟩) hHeld ?_
          rotate_left
          · intro w' hSw; (try dsimp only at hSw); go_simp; try with_reducible rfl
          simp only [Act.put, List.setIfInBounds_toArray, List.set_cons_zero, List.set_cons_succ]
          refine takeH (i := 6) (d := some 130) (v := ?_) rfl rfl (by kernel_rfl) (by kernel_rfl) (by kernel_rfl) (fun _ _ _ h => h) (Or.inl ⟨by rfl, ?_⟩) hHeld ?_
          rotate_left
          · intro w' hSw; (try dsimp only at hSw); go_simp; try with_reducible rfl
          simp only [Act.put, List.setIfInBounds_toArray, List.set_cons_zero, List.set_cons_succ]
          refine takeH (i := 7) (d := some 131) (v := ?_) rfl rfl (by kernel_rfl) (by kernel_rfl) (by kernel_rfl) (fun _ _ _ h => h) (Or.inl ⟨by rfl, ?_⟩) hHeld ?_
          rotate_left
          · intro w' hSw; (try dsimp only at hSw); go_simp; try with_reducible rfl
          simp only [Act.put, List.setIfInBounds_toArray, List.set_cons_zero, List.set_cons_succ]
          refine takeH (i := 8) (d := some 132) (v := ?_) rfl rfl (by kernel_rfl) (by kernel_rfl) (by kernel_rfl) (fun _ _ _ h => h) (Or.inl ⟨by rfl, ?_⟩) hHeld ?_
          rotate_left
          · intro w' hSw; (try dsimp only at hSw); go_simp; try with_reducible rfl
          simp only [Act.put, List.setIfInBounds_toArray, List.set_cons_zero, List.set_cons_succ]
          refine takeH (i := 9) (d := some 133) (v := ?_) rfl rfl (by kernel_rfl) (by kernel_rfl) (by kernel_rfl) (fun _ _ _ h => h) (Or.inl ⟨by rfl, ?_⟩) hHeld ?_
          rotate_left
          · intro w' hSw; (try dsimp only at hSw); obtain ⟨q1, q2, q3, q4⟩ := hSw; go_simp; try with_reducible rfl
          simp only [Act.put, List.setIfInBounds_toArray, List.set_cons_zero, List.set_cons_succ]
          refine takeH (i := 10) (d := some 134) (v := ?_) rfl rfl (by kernel_rfl) (by kernel_rfl) (by kernel_rfl) (fun _ _ _ h => h) (Or.inl ⟨by rfl, ?_⟩) hHeld ?_
          rotate_left
          · intro w' hSw; (try dsimp only at hSw); go_simp; try with_reducible rfl
          simp only [Act.put, List.setIfInBounds_toArray, List.set_cons_zero, List.set_cons_succ]
          refine takeH (i := 11) (d := some 135) (v := ?_) rfl rfl (by kernel_rfl) (by kernel_rfl) (by kernel_rfl) (fun _ _ _ h => h) (Or.inl ⟨by rfl, ?_⟩) hHeld ?_
          rotate_left
          · intro w' hSw; (try dsimp only at hSw); go_simp; try with_reducible rfl
          simp only [Act.put, List.setIfInBounds_toArray, List.set_cons_zero, List.set_cons_succ]
          refine takeH (i := 12) (d := some 136) (v := ?_) rfl rfl (by kernel_rfl) (by kernel_rfl) (by kernel_rfl) (fun _ _ _ h => h) (Or.inl ⟨by rfl, ?_⟩) hHeld ?_
          rotate_left
          · intro w' hSw; (try dsimp only at hSw); go_simp; try with_reducible rfl
          simp only [Act.put, List.setIfInBounds_toArray, List.set_cons_zero, List.set_cons_succ]
          refine wpAnyH_ready (rs := [13]) (by kernel_rfl) (by simp) ?_
          refine AllReadyH.cons rfl (fun K hK => ?_) (AllReadyH.nil)
          rw [if_pos (by rfl)]
          refine wp_store_mid _ _ _ rfl _ _ (gc (syB n wn)) rfl rfl (GB.there Z4.out.drew.gb) infoSeg (gc_one' _) ?_
          have Z5 := Lib.hid (Z4.out.drew.put (syB n wn))
          have s8 := Z5.out.pm.sp
          dsimp only at s8
          clear hHeld
          refine hK.out _ _ s8 (fun hHeld => ?_)
          clear hK K
          try simp only [Act.put, List.setIfInBounds_toArray, List.set_cons_zero, List.set_cons_succ]
          refine wpAnyH_done (by kernel_rfl) ?_ _
          go_wp2_with fail
          go_meet
          exact Z5
        have Z6 := hcut
        clear Z4 hcut
        go_wp2_with (refine wpList_load_mid rfl 35 _ rfl s0 0 rfl (gcl (syB n wn)) _ (GB.range Z6.out.gb) HUs.out rfl infoSeg ?_)
        refine (HIL.out Z6.out OK1.out (by unfold Few; omega) sk2.out).mono ?_; rintro e w10 ⟨rfl, P9, z9⟩
        have Z7 := Lib.hid z9
        clear z9 Z6
        rw [B1.out]
        generalize c1.inC (syB n wn) = c2 at *
        go_wp2_with fail
        refine (HSt.out Z7.out.pm).mono ?_; rintro e w11 ⟨rfl, rfl⟩
        rw [B2.out]
        go_wp2_with fail
        go_cut [] from 146 to 154 (fun W => Hid (BZ wb ⟨x, a, b, P9, d, Q2⟩ p6 c2 e6 s0 (otB oa op (Cn.nm irs 1)) W))
        case first =>
          refine wp_region_held_drew (S := (sO x w.heap.size oa op)) (by kernel_rfl) (HSO.out Z7.out.drew.pm) (fun hHeld => ?_)
          refine takeH (i := 0) (d := some 146) (v := ?_) rfl rfl (by kernel_rfl) (by kernel_rfl) (by kernel_rfl) (fun _ _ _ h => h) (Or.inl ⟨by rfl, ?_⟩) hHeld ?_
          rotate_left
          · intro w' hSw; (try dsimp only at hSw); obtain ⟨⟨q1, q2, q3, q4⟩, q5, q6⟩ := hSw; go_simp; try with_reducible rfl
          simp only [Act.put, List.setIfInBounds_toArray, List.set_cons_zero, List.set_cons_succ]
          refine takeH (i := 1) (d := some 147) (v := ?_) rfl rfl (by kernel_rfl) (by kernel_rfl) (by kernel_rfl) (fun _ _ _ h => h) (Or.inl ⟨by rfl, ?_⟩) hHeld ?_
          rotate_left
          · intro w' hSw; (try dsimp only at hSw); go_simp; try with_reducible rfl
          simp only [Act.put, List.setIfInBounds_toArray, List.set_cons_zero, List.set_cons_succ]
          refine takeH (i := 2) (d := some 148) (v := ?_) rfl rfl (by kernel_rfl) (by kernel_rfl) (by kernel_rfl) (fun _ _ _ h => h) (Or.inl ⟨by rfl, ?_⟩) hHeld ?_
          rotate_left
          · intro w' hSw; (try dsimp only at hSw); go_simp; try with_reducible rfl
          simp only [Act.put, List.setIfInBounds_toArray, List.set_cons_zero, List.set_cons_succ]
          refine takeH (i := 3) (d := some 149) (v := ?_) rfl rfl (by kernel_rfl) (by kernel_rfl) (by kernel_rfl) (fun _ _ _ h => h) (Or.inl ⟨by rfl, ?_⟩) hHeld ?_
          rotate_left
          · intro w' hSw; (try dsimp only at hSw); go_simp; try with_reducible rfl
          simp only [Act.put, List.setIfInBounds_toArray, List.set_cons_zero, List.set_cons_succ]
          refine takeH (i := 4) (d := some 150) (v := ?_) rfl rfl (by kernel_rfl) (by kernel_rfl) (by kernel_rfl) (fun _ _ _ h => h) (Or.inl ⟨by rfl, ?_⟩) hHeld ?_
          rotate_left
          · intro w' hSw; (try dsimp only at hSw); go_simp; try with_reducible rfl
          simp only [Act.put, List.setIfInBounds_toArray, List.set_cons_zero, List.set_cons_succ]
          refine takeH (i := 5) (d := some 151) (v := ?_) rfl rfl (by kernel_rfl) (by kernel_rfl) (by kernel_rfl) (fun _ _ _ h => h) (Or.inl ⟨by rfl, ?_⟩) hHeld ?_
          rotate_left
          · intro w' hSw; (try dsimp only at hSw); obtain ⟨⟨q1, q2, q3, q4⟩, q5, q6⟩ := hSw; go_simp; try with_reducible rfl
          simp only [Act.put, List.setIfInBounds_toArray, List.set_cons_zero, List.set_cons_succ]
          refine takeH (i := 6) (d := some 152) (v := ?_) rfl rfl (by kernel_rfl) (by kernel_rfl) (by kernel_rfl) (fun _ _ _ h => h) (Or.inl ⟨by rfl, ?_⟩) hHeld ?_
          rotate_left
          · intro w' hSw; (try dsimp only at hSw); go_simp; try with_reducible rfl
          simp only [Act.put, List.setIfInBounds_toArray, List.set_cons_zero, List.set_cons_succ]
          refine takeH (i := 7) (d := some 153) (v := ?_) rfl rfl (by kernel_rfl) (by kernel_rfl) (by kernel_rfl) (fun _ _ _ h => h) (Or.inl ⟨by rfl, ?_⟩) hHeld ?_
          rotate_left
          · intro w' hSw; (try dsimp only at hSw); go_simp; try with_reducible rfl
          simp only [Act.put, List.setIfInBounds_toArray, List.set_cons_zero, List.set_cons_succ]
          refine takeH (i := 8) (d := some 154) (v := ?_) rfl rfl (by kernel_rfl) (by kernel_rfl) (by kernel_rfl) (fun _ _ _ h => h) (Or.inl ⟨by rfl, ?_⟩) hHeld ?_
          rotate_left
          · intro w' hSw; (try dsimp only at hSw); go_simp; try with_reducible rfl
          simp only [Act.put, List.setIfInBounds_toArray, List.set_cons_zero, List.set_cons_succ]
          refine wpAnyH_ready (rs := [9]) (by kernel_rfl) (by simp) ?_
          refine AllReadyH.cons rfl (fun K hK => ?_) (AllReadyH.nil)
          rw [if_pos (by rfl)]
          rw [HW1.out]
          refine wp_store_mid _ _ _ rfl _ _ (gc (otB oa op (Cn.nm irs 1))) rfl rfl (GB.there Z7.out.drew.gb) infoSeg (gc_one' _) ?_
          have Z8 := Lib.hid (Z7.out.drew.put (otB oa op (Cn.nm irs 1)))
          have s8 := (HSO.out Z8.out.pm)
          dsimp only at s8
          clear hHeld
          refine hK.out _ _ s8 (fun hHeld => ?_)
          clear hK K
          try simp only [Act.put, List.setIfInBounds_toArray, List.set_cons_zero, List.set_cons_succ]
          refine wpAnyH_done (by kernel_rfl) ?_ _
          go_wp2_with fail
          go_meet
          exact Z8
        have Z9 := hcut
        clear Z7 hcut
        go_wp2_with (refine wpList_load_mid rfl 35 _ rfl s0 0 rfl (gcl (otB oa op (Cn.nm irs 1))) _ (GB.range Z9.out.gb) HUs.out rfl infoSeg ?_)
        refine (HIL.out Z9.out OK2.out (by unfold Few; omega) sk3.out).mono ?_; rintro e w12 ⟨rfl, P10, z10⟩
        have Z10 := Lib.hid z10
        have hso := HSO.out z10.pm
        dsimp only at hso
        obtain ⟨⟨_, _, x4, x5⟩, y0, y1⟩ := hso
        clear z10 Z9
        by_cases ha : oa = 2
        · by_cases hb : op = 80
          · have HE : Hid (c2.inE (otB oa op (Cn.nm irs 1)) = 0) := HOt.out.1 ⟨ha, hb⟩
            have e5 : ((oa : Int) == 2) = true := by rw [beq_iff_eq]; omega
            have e6 : (op == 80) = true := by rw [beq_iff_eq]; omega
            rw [HE.out]
            clear ha hb HOt HE
            go_wp2_with fail
            go_quiet (fail)
            have HF := Lib.hid (HFin.out (Z10.out.keep (below_drewN w12 nq)).pm)
            clear x4 x5 y0 y1 Z10
            generalize w12.drewN nq = W13 at *
            go_wp2_with fail
            go_ret
            exact ⟨rfl, HF.out⟩
          · have HE := Lib.hid (HOt.out.2 (fun h => hb h.2))
            have e5 : ((oa : Int) == 2) = true := by rw [beq_iff_eq]; omega
            have e6 : (op == 80) = false := by rw [beq_eq_false_iff_ne]; omega
            generalize c2.inE (otB oa op (Cn.nm irs 1)) = eo at *
            have h7 : ¬ eo = 0 := HE.out.1
            have e7 : (eo == 0) = false := by rw [beq_eq_false_iff_ne]; exact HE.out.1
            have e8 : (eo != 0) = true := by rw [bne_iff_ne]; exact HE.out.1
            clear ha hb HOt
            go_wp2_with fail
            go_quiet (fail)
            have Z11 := Lib.hid (Z10.out.keep (below_drewN w12 nq))
            clear x4 x5 y0 y1 Z10
            generalize w12.drewN nq = W13 at *
            go_wp2_with fail
            refine (HSt.out Z11.out.pm).mono ?_; rintro e w14 ⟨rfl, rfl⟩
            rw [HE.out.2]
            go_wp2_with fail
            go_ret
            exact ⟨rfl, HFin.out Z11.out.pm⟩
        · have HE := Lib.hid (HOt.out.2 (fun h => ha h.1))
          have e5 : ((oa : Int) == 2) = false := by rw [beq_eq_false_iff_ne]; omega
          generalize c2.inE (otB oa op (Cn.nm irs 1)) = eo at *
          have h7 : ¬ eo = 0 := HE.out.1
          have e7 : (eo == 0) = false := by rw [beq_eq_false_iff_ne]; exact HE.out.1
          have e8 : (eo != 0) = true := by rw [bne_iff_ne]; exact HE.out.1
          clear ha HOt
          go_wp2_with fail
          go_quiet (fail)
          have Z11 := Lib.hid (Z10.out.keep (below_drewN w12 nq))
          clear x4 x5 y0 y1 Z10
          generalize w12.drewN nq = W13 at *
          go_wp2_with fail
          refine (HSt.out Z11.out.pm).mono ?_; rintro e w14 ⟨rfl, rfl⟩
          rw [HE.out.2]
          go_wp2_with fail
          go_ret
          exact ⟨rfl, HFin.out Z11.out.pm⟩
end Go.Proofs.Ytnhcjefbiihfjaa
