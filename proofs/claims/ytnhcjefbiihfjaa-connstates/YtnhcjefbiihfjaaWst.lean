/-
  The walk of ConnStates.
-/
import Derived.Test.YtnhcjefbiihfjaaOf
import Derived.Deep.CutBlock
import Derived.WalkMore
namespace Go.Proofs.Ytnhcjefbiihfjaa
open Go.RowKit
open Tc (Sg gchk gv gc)
set_option linter.unusedVariables false
set_option linter.unusedSimpArgs false
set_option maxHeartbeats 8000000 in
theorem follows_any (a b : Int) (w : World) (ha : 0 ≤ a ∧ a ≤ 9) (hb : 0 ≤ b ∧ b ≤ 9) :
    Calls Try.prog 14 #[.int .i64 a, .int .i64 b] w fun e w' => e = .returned (.bool (fol a b)) ∧ w' = w := by
  have h1 : a = 0 ∨ a = 1 ∨ a = 2 ∨ a = 3 ∨ a = 4 ∨ a = 5 ∨ a = 6 ∨ a = 7 ∨ a = 8 ∨ a = 9 := by omega
  have h2 : b = 0 ∨ b = 1 ∨ b = 2 ∨ b = 3 ∨ b = 4 ∨ b = 5 ∨ b = 6 ∨ b = 7 ∨ b = 8 ∨ b = 9 := by omega
  clear ha hb
  rcases h1 with rfl | rfl | rfl | rfl | rfl | rfl | rfl | rfl | rfl | rfl <;> rcases h2 with rfl | rfl | rfl | rfl | rfl | rfl | rfl | rfl | rfl | rfl
  all_goals
    go_enter Try.func14, Try.ntmps14
    go_wp2
    go_ret
    exact ⟨rfl, rfl⟩
/-- What the walk keeps of a connection. -/
structure KC (k : Nat) (w : World) (q : Nat) (c : Cn) (P : Pt) (W : World) : Prop where
  nc : NC w q c P W
  ok : COk k c
  rn : Rn c
  wy : c.st ≠ 0 → c.why = 0
theorem KC.to {k k' : Nat} {w W W' : World} {q : Nat} {c c' : Cn} {P P' : Pt} (h : KC k w q c P W) (h' : CT q c' P' W') (u : Up q P P' W W') (ok : COk k' c') (rn : Rn c') (g : Go2 c c') : KC k' w q c' P' W' :=
  ⟨h.nc.to h' u, ok, rn, fun e => by rw [(g.wy e).2]; exact h.wy (g.wy e).1⟩
theorem KC.keep {k : Nat} {w W W' : World} {q : Nat} {c : Cn} {P : Pt} (h : KC k w q c P W) (u : Below W.heap.size W W') : KC k w q c P W' := ⟨h.nc.keep u, h.ok, h.rn, h.wy⟩
set_option maxRecDepth 100000 in
set_option maxHeartbeats 4000000 in
theorem states_walk (l r : Nat × Int) (iss : Nat) (m : Int) (o : Option Addr) (b off len cap : Nat) (C : Nat → List Value) (S : Nat → Stp) (w : World)
    (hl : l.1 < 4294967296 ∧ -9223372036854775808 ≤ l.2 ∧ l.2 ≤ 9223372036854775807) (hr : r.1 < 4294967296 ∧ -9223372036854775808 ≤ r.2 ∧ r.2 ≤ 9223372036854775807) (hi : iss < 4294967296) (hm : -9223372036854775808 ≤ m ∧ m ≤ 9223372036854775807)
    (hb : 0 < len → o = some ⟨b, off, none⟩ ∧ b < w.heap.size) (hS : StepsAt w b off len C S) (hrm : len * 300 ≤ 140737488355328) (htx : ∀ i, i < len → (S i).txt.size ≤ 140737488355328) :
    Calls Try.prog 3 #[ev l, ev r, .int .u32 (iss : Int), .int .i64 m, .slice o len cap] w fun e w' => e = .returned (.bool true) ∧ Below w.heap.size w w' := by
  have HB := Lib.hid (w2_b w l r)
  have x1 : (w2 w l r).cell? ⟨w.heap.size, 0, none⟩ = some (.int .u32 (l.1 : Int)) := (w2_l w l r).c0
  have x2 : (w2 w l r).cell? ⟨w.heap.size, 1, none⟩ = some (.int .i64 l.2) := (w2_l w l r).c1
  have x3 : (w2 w l r).cell? ⟨w.heap.size + 1, 0, none⟩ = some (.int .u32 (r.1 : Int)) := (w2_r w l r).c0
  have x4 : (w2 w l r).cell? ⟨w.heap.size + 1, 1, none⟩ = some (.int .i64 r.2) := (w2_r w l r).c1
  have HD0 : Hid (∀ W, Calls Try.prog 5 #[.agg #[.int .u32 0, .int .i64 0], .agg #[.int .u32 0, .int .i64 0], .int .u32 0, .int .i64 0] W fun e w' => e = .returned (.tuple #[.pointer none, .int .i64 1]) ∧ Below W.heap.size W w') := fun W => dial_bad (l := (0, 0)) (r := (0, 0)) (iss := 0) (mss := 0) (Or.inl (by decide))
  by_cases hbad : ¬ (1 ≤ l.2 ∧ l.2 ≤ 65535) ∨ ¬ (1 ≤ r.2 ∧ r.2 ≤ 65535) ∨ m < 8 ∨ 1000 < m
  · have HD := Lib.hid (dial_bad (w := w2 w l r) (iss := iss) hbad)
    clear hbad hl hr hi hm hb hS hrm htx
    go_enter Try.func3, Try.ntmps3
    go_wp2_with fail
    refine HD.out.mono ?_; rintro e w3 ⟨rfl, hb3⟩
    have B3 : Hid (Below w.heap.size w w3) := HB.out.trans (hb3.mono HB.out.size)
    clear hb3 x1 x2 x3 x4
    go_wp2_with fail
    refine (HD0.out _).mono ?_; rintro e w4 ⟨rfl, hb4⟩
    have B4 := Lib.hid (below_trans B3.out hb4)
    clear hb4
    go_wp2_with fail
    go_ret
    exact ⟨rfl, B4.out⟩
  · have HD : Hid (Calls Try.prog 5 #[ev l, ev r, .int .u32 (iss : Int), .int .i64 m] (w2 w l r) fun e w' => ∃ q P, e = .returned (.tuple #[ptr q, .int .i64 0]) ∧ NC w q (Cn.fresh l.1 l.2 r.1 r.2 iss m) P w') := (dial_ok (w := w2 w l r) (iss := iss) (by omega) (by omega) (by omega)).mono fun e w' ⟨q, P, h1, h2, h3, h4⟩ =>
      ⟨q, P, h1, h2, HB.out.trans (h3.mono HB.out.size), fun x hx => Nat.le_trans HB.out.size (h4 x hx)⟩
    have HK0 : Hid (COk 0 (Cn.fresh l.1 l.2 r.1 r.2 iss m)) := COk.fresh hl.1 hr.1 hi (by omega) (by omega) (by omega)
    have HR0 : Hid (Rn (Cn.fresh l.1 l.2 r.1 r.2 iss m)) := fun h => by cases h
    have HW0 : Hid ((Cn.fresh l.1 l.2 r.1 r.2 iss m).st ≠ 0 → (Cn.fresh l.1 l.2 r.1 r.2 iss m).why = 0) := fun _ => rfl
    generalize Cn.fresh l.1 l.2 r.1 r.2 iss m = c0 at *
    clear hbad hl hr hi hm
    have HS0 := Lib.hid hS
    have HB0 := Lib.hid hb
    have HT0 := Lib.hid htx
    clear hb hS htx
    go_enter Try.func3, Try.ntmps3
    go_wp2_with fail
    refine HD.out.mono ?_; rintro e w3 ⟨q, P, rfl, n3⟩
    have N3 := Lib.hid n3
    clear n3 x1 x2 x3 x4 HD
    go_wp2_with fail
    refine (HD0.out _).mono ?_; rintro e w4 ⟨rfl, hb4⟩
    have K4 : Hid (KC 0 w q c0 P w4) := ⟨N3.out.keep hb4, HK0.out, HR0.out, HW0.out⟩
    clear hb4 HD0 N3 HK0 HR0 HW0
    go_wp2_with fail
    go_loopw [50] (fun i W => ∃ (k : Nat) (P : Pt) (c : Cn), k ≤ len ∧ i = .int .i64 (k : Int) ∧ KC k w q c P W) (fun i _ => len - (intOf i).toNat)
    case atStart => exact ⟨0, P, c0, Nat.zero_le _, rfl, K4.out⟩
    case round =>
      obtain ⟨k, P, c, hk, rfl, hK⟩ := hrel
      have K := Lib.hid hK
      clear hK K4
      have HSt : Hid (∀ {W}, KC k w q c P W → Calls Try.prog 6 #[ptr q] W fun e w' => e = .returned (.int .i64 c.st) ∧ w' = W) := fun h => state_any h.nc.ct
      have HWy : Hid (∀ {W}, KC k w q c P W → Calls Try.prog 7 #[ptr q] W fun e w' => e = .returned (.int .i64 c.why) ∧ w' = W) := fun h => why_any h.nc.ct
      by_cases hlt : k < len
      · obtain ⟨ho, hbb⟩ := HB0.out (by omega)
        subst ho
        obtain ⟨hr', hcs⟩ := HS0.out k hlt
        have F := Lib.hid (step_f HS0.out hlt hbb K.out.nc.be)
        have HOf : Hid (∀ w', Calls Try.prog 8 #[.agg (C k).toArray, .int .i64 6] w' fun e w'' => e = .returned (.int .i64 ((S k).kind % 6)) ∧ Below w'.heap.size w' w'') := fun w' => of_any (C k) (S k) 6 w' hcs (by omega) (by omega)
        have HSB : Hid (∀ {g : Nat} {W}, SB g (C k) W → W.cell? ⟨g, 1, none⟩ = some (.int .i64 (S k).num) ∧ W.cell? ⟨g, 4, none⟩ = some (.string (S k).txt) ∧ W.rangeAt g 16 (gcl (S k).seg)) := fun h => ⟨h.c1 hcs, h.c4 hcs, h.seg hcs⟩
        have HFs : Hid (SOk (S k).seg) := ⟨hcs.fg.sa, hcs.fg.da, hcs.fg.sq, hcs.fg.ak⟩
        have hxz : (S k).txt.size ≤ maxLen := hcs.z
        have hkd0 := Int.emod_nonneg (S k).kind (show (6 : Int) ≠ 0 by omega)
        have hkd1 := Int.emod_lt_of_pos (S k).kind (show (0 : Int) < 6 by omega)
        have HUs := Lib.hid Try.underlying35
        have K5 : Hid (KC k w q c P (wr.alloc (.cells (C k).toArray 41))) := K.out.keep ((Below.refl _ _).alloc (Nat.le_refl _) _)
        have SB5 := Lib.hid F.out.blk
        clear hcs hr' hbb K
        generalize C k = cs at *
        generalize (S k).num = num at *
        generalize (S k).txt = x at *
        generalize (S k).seg = sg at *
        generalize (S k).kind % 6 = kd at *
        go_upto_region 10 with (first | (refine wpList_load_mid rfl 41 _ rfl b (off + k * 45) rfl cs _ F.out.rr Try.underlying41 rfl F.out.hi ?_) | (refine wpList_store_last rfl 41 _ _ rfl wr _ cs.toArray rfl rfl rfl F.out.hi' F.out.h45 F.out.one ?_))
        generalize wr.alloc (.cells cs.toArray 41) = w5 at *
        generalize wr.heap.size = y at *
        go_upto_block 2 with (first | (refine (HSt.out K5.out).mono ?_; rintro e w5 ⟨rfl, rfl⟩) | (refine (HWy.out K5.out).mono ?_; rintro e w5 ⟨rfl, rfl⟩) | (refine wpList_load_mid rfl 41 _ rfl y 0 rfl cs _ SB5.out.range Try.underlying41 rfl F.out.hi ?_) | (refine (HOf.out _).mono ?_; rintro e w6 ⟨rfl, hb6⟩))
        have K6 := Lib.hid (K5.out.keep hb6)
        obtain ⟨y1, y4, sg6⟩ := HSB.out (SB5.out.keep hb6)
        have SG6 := Lib.hid sg6
        clear hb6 sg6 K5 SB5 F HOf HSB
        go_cut [] from 60 to 94 (fun W => ∃ P' c', KC (k + 1) w q c' P' W ∧ Hid (Go2 c c'))
        case first =>
          have hkd : kd = 0 ∨ kd = 1 ∨ kd = 2 ∨ kd = 3 ∨ 4 ≤ kd := by omega
          rcases hkd with rfl | rfl | rfl | rfl | h4
          · have HA := Lib.hid (tick_any K6.out.nc.ct K6.out.ok (by unfold Few; omega) num)
            have HZ : Hid (∀ {W}, CT q (c.tickC num) P W → Up q P P w6 W → KC (k + 1) w q (c.tickC num) P W ∧ Go2 c (c.tickC num)) := fun h u => ⟨K6.out.to h u ((K6.out.ok.tickC num).mono (by omega)) (K6.out.rn.tickC num) (tickC_go c num K6.out.rn), tickC_go c num K6.out.rn⟩
            clear HSt HWy
            go_wp2_with fail
            refine HA.out.mono ?_; rintro e w7 ⟨rfl, t7, u7⟩
            obtain ⟨k7, g7⟩ := HZ.out t7 u7
            have K7 := Lib.hid k7
            have G7 := Lib.hid g7
            clear t7 u7 k7 g7
            go_wp2_with fail
            go_meet
            exact ⟨P, _, K7.out, G7⟩
          · have HA := Lib.hid (write_any K6.out.nc.ct K6.out.ok (by unfold Few; omega) x hxz)
            have HZ : Hid (∀ {W P'}, CT q (c.writeC x) P' W → Up q P P' w6 W → KC (k + 1) w q (c.writeC x) P' W ∧ Go2 c (c.writeC x)) := fun h u => ⟨K6.out.to h u (K6.out.ok.writeC x) (K6.out.rn.writeC x) (writeC_go c x), writeC_go c x⟩
            clear HSt HWy
            go_wp2_with fail
            refine HA.out.mono ?_; rintro e w7 ⟨rfl, P', t7, u7⟩
            obtain ⟨k7, g7⟩ := HZ.out t7 u7
            have K7 := Lib.hid k7
            have G7 := Lib.hid g7
            clear t7 u7 k7 g7
            go_wp2_with fail
            go_meet
            exact ⟨P', _, K7.out, G7⟩
          · have HA := Lib.hid (close_any K6.out.nc.ct K6.out.ok (by unfold Few; omega))
            have HZ : Hid (∀ {W}, CT q c.closeC P W → Up q P P w6 W → KC (k + 1) w q c.closeC P W ∧ Go2 c c.closeC) := fun h u => ⟨K6.out.to h u (K6.out.ok.closeC.mono (by omega)) K6.out.rn.closeC (closeC_go c), closeC_go c⟩
            have hE : (c.closeE = 10 ∧ c.st = 0) ∨ ¬ c.closeE = 10 := by
              by_cases h : c.closeE = 10
              · exact Or.inl ⟨h, closeE_10 h⟩
              · exact Or.inr h
            clear HSt HWy
            rcases hE with ⟨h1, h2⟩ | h1
            · have d2 : (c.st != 0) = false := by simpa using h2
              rw [h1] at HA
              clear h1 h2
              go_wp2_with fail
              refine HA.out.mono ?_; rintro e w7 ⟨rfl, t7, u7⟩
              obtain ⟨k7, g7⟩ := HZ.out t7 u7
              have K7 := Lib.hid k7
              have G7 := Lib.hid g7
              clear t7 u7 k7 g7
              go_wp2_with fail
              go_meet
              exact ⟨P, _, K7.out, G7⟩
            · have d1 : (c.closeE == 10) = false := by simpa using h1
              clear h1
              generalize c.closeE = ce at *
              go_wp2_with fail
              refine HA.out.mono ?_; rintro e w7 ⟨rfl, t7, u7⟩
              obtain ⟨k7, g7⟩ := HZ.out t7 u7
              have K7 := Lib.hid k7
              have G7 := Lib.hid g7
              clear t7 u7 k7 g7
              go_wp2_with fail
              go_meet
              exact ⟨P, _, K7.out, G7⟩
          · have HA := Lib.hid (out_any K6.out.nc.ct K6.out.ok (by unfold Few; omega))
            have HZ : Hid (∀ {W P'}, CT q c.outC P' W → Up q P P' w6 W → KC (k + 1) w q c.outC P' W ∧ Go2 c c.outC) := fun h u => ⟨K6.out.to h u ((K6.out.ok.outC (by unfold Few; omega)).mono (by omega)) K6.out.rn.outC (outC_go c), outC_go c⟩
            clear HSt HWy
            go_wp2_with fail
            refine HA.out.mono ?_; rintro e w7 ⟨v7, rfl, _, P', t7, u7⟩
            obtain ⟨k7, g7⟩ := HZ.out t7 u7
            have K7 := Lib.hid k7
            have G7 := Lib.hid g7
            clear t7 u7 k7 g7
            go_wp2_with fail
            go_meet
            exact ⟨P', _, K7.out, G7⟩
          · have HA := Lib.hid (in_any (g := sg) K6.out.nc.ct K6.out.ok (by unfold Few; omega) HFs.out)
            have HZ : Hid (∀ {W P'}, CT q (c.inC sg) P' W → Up q P P' w6 W → KC (k + 1) w q (c.inC sg) P' W ∧ Go2 c (c.inC sg)) := fun h u => ⟨K6.out.to h u (K6.out.ok.inC1 HFs.out) (K6.out.rn.inC sg) (inC_go c sg), inC_go c sg⟩
            have hE : (c.inE sg = 10 ∧ c.st = 0) ∨ ¬ c.inE sg = 10 := by
              by_cases h : c.inE sg = 10
              · rcases inE_10 h with e | e
                · exact Or.inl ⟨h, e⟩
                · exact absurd e (gchk_10 sg)
              · exact Or.inr h
            have e0 : (kd == 0) = false := by rw [beq_eq_false_iff_ne]; omega
            have e1 : (kd == 1) = false := by rw [beq_eq_false_iff_ne]; omega
            have e2 : (kd == 2) = false := by rw [beq_eq_false_iff_ne]; omega
            have e3 : (kd == 3) = false := by rw [beq_eq_false_iff_ne]; omega
            clear HSt HWy h4 hkd0 hkd1
            rcases hE with ⟨h1, h2⟩ | h1
            · have d2 : (c.st != 0) = false := by simpa using h2
              rw [h1] at HA
              clear h1 h2
              go_wp2_with (refine wpList_load_mid rfl 35 _ rfl y 16 rfl (gcl sg) _ SG6.out HUs.out rfl infoSeg ?_)
              refine HA.out.mono ?_; rintro e w7 ⟨rfl, P', t7, u7⟩
              obtain ⟨k7, g7⟩ := HZ.out t7 u7
              have K7 := Lib.hid k7
              have G7 := Lib.hid g7
              clear t7 u7 k7 g7
              go_wp2_with fail
              go_meet
              exact ⟨P', _, K7.out, G7⟩
            · have d1 : (c.inE sg == 10) = false := by simpa using h1
              clear h1
              generalize c.inE sg = ce at *
              go_wp2_with (refine wpList_load_mid rfl 35 _ rfl y 16 rfl (gcl sg) _ SG6.out HUs.out rfl infoSeg ?_)
              refine HA.out.mono ?_; rintro e w7 ⟨rfl, P', t7, u7⟩
              obtain ⟨k7, g7⟩ := HZ.out t7 u7
              have K7 := Lib.hid k7
              have G7 := Lib.hid g7
              clear t7 u7 k7 g7
              go_wp2_with fail
              go_meet
              exact ⟨P', _, K7.out, G7⟩
        obtain ⟨P', c', k7, G⟩ := hcut
        have K7 := Lib.hid k7
        have HS7 : Hid (∀ {W}, KC (k + 1) w q c' P' W → Calls Try.prog 6 #[ptr q] W fun e w' => e = .returned (.int .i64 c'.st) ∧ w' = W) := fun h => state_any h.nc.ct
        have HW7 : Hid (∀ {W}, KC (k + 1) w q c' P' W → Calls Try.prog 7 #[ptr q] W fun e w' => e = .returned (.int .i64 c'.why) ∧ w' = W) := fun h => why_any h.nc.ct
        have HFo : Hid (∀ W, Calls Try.prog 14 #[.int .i64 c.st, .int .i64 c'.st] W fun e w' => e = .returned (.bool true) ∧ w' = W) := fun W => by
          have := follows_any c.st c'.st W K6.out.ok.st K7.out.ok.st
          rwa [G.out.fo] at this
        have hwy := k7.wy
        have hcl := G.out.cl
        clear k7 HSt HWy K6 G SG6 y1 y4 HFs hxz hkd0 hkd1
        by_cases hc0 : c.st = 0
        · obtain ⟨h1, h2⟩ := hcl hc0
          have d0 : (c.st == 0) = true := by simpa using hc0
          have d1 : (c'.why != c.why) = false := by simpa using h2
          have d2 : (c'.st != 0) = false := by simpa using h1
          clear hc0 h1 h2 hwy hcl
          go_wp2_with (first | (refine (HS7.out K7.out).mono ?_; rintro e w8 ⟨rfl, rfl⟩) | (refine (HW7.out K7.out).mono ?_; rintro e w8 ⟨rfl, rfl⟩) | (refine (HFo.out _).mono ?_; rintro e w8 ⟨rfl, rfl⟩))
          go_roundw
          case rel => exact ⟨k + 1, P', c', hlt, by simp, K7.out⟩
          case measure => simp [intOf]; omega
        · have d0 : (c.st == 0) = false := by simpa using hc0
          by_cases hc1 : c'.st = 0
          · have d2 : (c'.st != 0) = false := by simpa using hc1
            clear hc0 hc1 hwy hcl
            go_wp2_with (first | (refine (HS7.out K7.out).mono ?_; rintro e w8 ⟨rfl, rfl⟩) | (refine (HW7.out K7.out).mono ?_; rintro e w8 ⟨rfl, rfl⟩) | (refine (HFo.out _).mono ?_; rintro e w8 ⟨rfl, rfl⟩))
            go_roundw
            case rel => exact ⟨k + 1, P', c', hlt, by simp, K7.out⟩
            case measure => simp [intOf]; omega
          · have d2 : (c'.st != 0) = true := by simpa using hc1
            have d3 : (c'.why != 0) = false := by simpa using hwy hc1
            clear hc0 hc1 hwy hcl
            go_wp2_with (first | (refine (HS7.out K7.out).mono ?_; rintro e w8 ⟨rfl, rfl⟩) | (refine (HW7.out K7.out).mono ?_; rintro e w8 ⟨rfl, rfl⟩) | (refine (HFo.out _).mono ?_; rintro e w8 ⟨rfl, rfl⟩))
            go_roundw
            case rel => exact ⟨k + 1, P', c', hlt, by simp, K7.out⟩
            case measure => simp [intOf]; omega
      · have ek : len = k := by omega
        subst ek
        have HO1 := Lib.hid (out_any K.out.nc.ct K.out.ok (by unfold Few; omega))
        have HO2 : Hid (∀ {P' W}, NC w q c.outC P' W → Calls Try.prog 12 #[ptr q] W fun e w' => ∃ v, e = .returned v ∧ SRow w' W.heap.size v c.outC.outL ∧ ∃ Q, NC w q c.outC.outC Q w') := fun h => (out_any h.ct (K.out.ok.outC (by unfold Few; omega)) (by unfold Few; omega)).mono fun e w' ⟨v, h1, h2, Q, h3, h4⟩ => ⟨v, h1, h2, Q, h.to h3 h4⟩
        have HA1 := Lib.hid (abort_any K.out.nc.ct K.out.ok (by unfold Few; omega))
        have HA2 : Hid (∀ {Q W}, NC w q c.outC.outC Q W → Calls Try.prog 15 #[ptr q] W fun e w' => e = .returned (.int .i64 c.outC.outC.abortE) ∧ ∃ Q', NC w q c.outC.outC.abortC Q' w') := fun h => (abort_any h.ct ((K.out.ok.outC (by unfold Few; omega)).outC (by unfold Few; omega)) (by unfold Few; omega)).mono fun e w' ⟨h1, Q', h2, h3⟩ => ⟨h1, Q', h.to h2 h3⟩
        by_cases hc0 : c.st = 0
        · have d0 : (c.st == 0) = true := by simpa using hc0
          have eL := closed_out hc0
          have eA : c.outC.outC.abortE = 10 := by unfold Cn.abortE; rw [if_pos (by rw [(outC_st _).1, (outC_st _).1]; exact hc0)]
          rw [eA] at HA2
          rw [eL] at HO2
          clear hc0 eA eL HA1
          go_wp2_with fail
          refine (HSt.out K.out).mono ?_; rintro e w5 ⟨rfl, rfl⟩
          go_wp2_with fail
          refine HO1.out.mono ?_; rintro e w6 ⟨v, rfl, _, P', t6, u6⟩
          have N6 := Lib.hid (K.out.nc.to t6 u6)
          clear t6 u6
          go_wp2_with fail
          refine (HO2.out N6.out).mono ?_; rintro e w7 ⟨v2, rfl, r7, Q, n7⟩
          have N7 := Lib.hid n7
          obtain ⟨o2, g2, cap2, hv2, _⟩ := r7.form
          subst hv2
          clear n7 r7
          go_wp2_with fail
          refine (HA2.out N7.out).mono ?_; rintro e w8 ⟨rfl, Q', n8⟩
          have N8 := Lib.hid n8
          clear n8
          go_wp2_with fail
          go_ret
          exact ⟨rfl, N8.out.be⟩
        · have d0 : (c.st == 0) = false := by simpa using hc0
          obtain ⟨a1, a2, a3⟩ := abortC_st hc0
          rw [a1] at HA1
          have HS9 : Hid (∀ {Q W}, CT q c.abortC Q W → Calls Try.prog 6 #[ptr q] W fun e w' => e = .returned (.int .i64 0) ∧ w' = W) := fun h => by have := state_any h; rwa [a2] at this
          have HW9 : Hid (∀ {Q W}, CT q c.abortC Q W → Calls Try.prog 7 #[ptr q] W fun e w' => e = .returned (.int .i64 17) ∧ w' = W) := fun h => by have := why_any h; rwa [a3] at this
          clear hc0 a1 a2 a3 HA2 HO1 HO2
          go_wp2_with fail
          refine (HSt.out K.out).mono ?_; rintro e w5 ⟨rfl, rfl⟩
          go_wp2_with fail
          refine HA1.out.mono ?_; rintro e w6 ⟨rfl, P', t6, u6⟩
          have N6 := Lib.hid (K.out.nc.to t6 u6)
          clear t6 u6
          go_wp2_with (first | (refine (HS9.out N6.out.ct).mono ?_; rintro e w8 ⟨rfl, rfl⟩) | (refine (HW9.out N6.out.ct).mono ?_; rintro e w8 ⟨rfl, rfl⟩))
          go_ret
          exact ⟨rfl, N6.out.be⟩
end Go.Proofs.Ytnhcjefbiihfjaa
