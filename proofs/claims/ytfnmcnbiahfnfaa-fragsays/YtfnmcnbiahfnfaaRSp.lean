/-
  Contract of the document's Split.
-/
import Derived.Test.YtfnmcnbiahfnfaaFrm
import Derived.BigRegion
namespace Go.Proofs.Ytfnmcnbiahfnfaa
open Go.RowKit
set_option linter.unusedVariables false
set_option linter.unusedSimpArgs false

theorem rsplit_one (p : Pk) (mtu : Int) (w : World) (h : mtu < 28 ∨ 1420 < mtu ∨ p.more = true ∨ p.off ≠ 0) :
    Calls Try.prog 10 #[pv p, .int .i64 mtu] w fun e w' => e = .returned (.tuple #[.slice none 0 0, .int .i64 1]) ∧ Below w.heap.size w w' := by
  have b0 : ∀ c, Below w.heap.size w (w.alloc (.cells c 24)) := fun c => (Below.refl _ _).alloc (Nat.le_refl _) _
  by_cases h0 : mtu < 28 ∨ 1420 < mtu
  · have HO : Hid (∀ w', Calls Try.prog 25 #[.int .i64 mtu, .int .i64 28, .int .i64 1420] w' fun e w'' => e = .returned (.bool true) ∧ w'' = w') := fun w' => outside_t mtu 28 1420 w' h0
    clear h h0
    go_enter Try.func10, Try.ntmps10
    go_wp2_with fail
    refine (HO.out _).mono ?_; rintro e w1 ⟨rfl, rfl⟩
    go_wp2_with fail
    go_ret2
    exact ⟨rfl, b0 _⟩
  · have HO : Hid (∀ w', Calls Try.prog 25 #[.int .i64 mtu, .int .i64 28, .int .i64 1420] w' fun e w'' => e = .returned (.bool false) ∧ w'' = w') := fun w' => outside_f mtu 28 1420 w' h0
    cases h2 : p.more with
    | true =>
      clear h h0
      go_enter Try.func10, Try.ntmps10
      go_wp2_with fail
      refine (HO.out _).mono ?_; rintro e w1 ⟨rfl, rfl⟩
      go_wp2_with fail
      go_ret2
      exact ⟨rfl, b0 _⟩
    | false =>
      have h3 : (p.off != 0) = true := by
        rcases h with h | h | h | h
        · exact absurd (Or.inl h) h0
        · exact absurd (Or.inr h) h0
        · rw [h2] at h; cases h
        · simpa using h
      clear h h0
      go_enter Try.func10, Try.ntmps10
      go_wp2_with fail
      refine (HO.out _).mono ?_; rintro e w1 ⟨rfl, rfl⟩
      go_wp2_with fail
      go_ret2
      exact ⟨rfl, b0 _⟩

theorem own_drew {w : World} {B e size n : Nat} {v : Value} {xs : List Value} (h : w.ownsRow B e size v n xs) : w.drew.ownsRow B e size v n xs := ⟨h.1, h.2⟩
theorem pk_eq (p : Pk) (k st : Nat) : pk p (8 * st) k = { p with off := ((k * st : Nat) : Int), more := decide (8 * (((k * st : Nat) : Int) + (st : Int)) < (p.body.size : Int)), body := p.body.extract (8 * (k * st)) (min (8 * (k * st) + 8 * st) p.body.size) } := by
  show pce p (k * (8 * st)) (min (k * (8 * st) + 8 * st) p.body.size) = _
  rw [Nat.mul_left_comm]
  generalize k * st = m
  unfold pce
  congr 1
  · rw [decide_eq_decide]; omega
  · omega

set_option maxHeartbeats 4000000 in
set_option maxRecDepth 100000 in
theorem rsplit_two (p : Pk) (mtu : Int) (w : World) (h : ¬ (mtu < 28 ∨ 1420 < mtu ∨ p.more = true ∨ p.off ≠ 0)) :
    Calls Try.prog 10 #[pv p, .int .i64 mtu] w fun e w' => ∃ v, e = .returned (.tuple #[v, .int .i64 (sperr p mtu)]) ∧ PRow w' w.heap.size v (spl p mtu) ∧ Below w.heap.size w w' := by
  have q1 : 28 ≤ mtu := Decidable.byContradiction fun hc => h (Or.inl (by omega))
  have q2 : mtu ≤ 1420 := Decidable.byContradiction fun hc => h (Or.inr (Or.inl (by omega)))
  have h2 : p.more = false := by
    cases hm : p.more
    · rfl
    · exact absurd (Or.inr (Or.inr (Or.inl hm))) h
  have h3 : p.off = 0 := Decidable.byContradiction fun hc => h (Or.inr (Or.inr (Or.inr hc)))
  have HSf : Hid (sflt p mtu = if chk (bare p) ≠ 0 then chk (bare p) else if 4000 < p.body.size then 2 else 0) := by show _ = _; unfold sflt; rw [if_neg h]
  have HO : Hid (∀ w', Calls Try.prog 25 #[.int .i64 mtu, .int .i64 28, .int .i64 1420] w' fun e w'' => e = .returned (.bool false) ∧ w'' = w') := fun w' => outside_f mtu 28 1420 w' (by omega)
  have HC : Hid (∀ w', Calls Try.prog 26 #[pv (bare p)] w' fun e w'' => e = .returned (.int .i64 (chk (bare p))) ∧ Below w'.heap.size w' w'') := fun w' => rchk_any (bare p) w'
  have HE : Hid (sperr p mtu = if sflt p mtu ≠ 0 then sflt p mtu else if (p.body.size : Int) + 20 ≤ mtu then 0 else if p.dont = true then 2 else 0) := rfl
  have HL : Hid (spl p mtu = if sperr p mtu ≠ 0 then [] else if (p.body.size : Int) + 20 ≤ mtu then [p] else pks p (room mtu) (cnt p.body.size (room mtu))) := rfl
  obtain ⟨r1, r2, r3, r4, r5⟩ := room_ok q1 q2
  have hT : ∀ k, k < cnt p.body.size (room mtu) ↔ k * room mtu < p.body.size := fun k => lt_cnt (by omega)
  have HCL := cnt_le p.body.size (room mtu) (by omega)
  generalize hst : room mtu / 8 = st at *
  have hR : room mtu = 8 * st := by omega
  obtain ⟨i0, hi0, hz0, hz1, hz2⟩ := info_parts info24z
  have P0 := Lib.hid (PB.new w p)
  have b0 : Below w.heap.size w (w.alloc (.cells (pc p) 24)) := (Below.refl _ _).alloc (Nat.le_refl _) _
  have PBare : Hid (∀ W : World, PB W.heap.size (bare p) (W.alloc (.cells (pc (bare p)) 24))) := fun W => PB.new W (bare p)
  have HU := Lib.hid Try.underlying24
  have HI : Hid ((Try.prog.info? 24).map (·.size) = some 9) := info24
  have x6 := P0.out.c6
  have x7 := P0.out.c7
  rw [h2] at x6
  rw [h3] at x7
  have HB := Lib.hid (show pc (bare p) = #[.int .u32 (p.src : Int), .int .u32 (p.dst : Int), .int .i64 p.proto, .int .i64 p.ttl, .int .i64 p.id, .bool p.dont, .bool p.more, .int .i64 p.off, .string ⟨#[]⟩] from rfl)
  have HM := Lib.hid h2
  have HF := Lib.hid h3
  generalize chk (bare p) = c at *
  generalize sflt p mtu = sf at *
  generalize sperr p mtu = E at *
  generalize spl p mtu = S at *
  clear h h2 h3 hst
  go_enter Try.func10, Try.ntmps10
  go_wp2_with fail
  refine (HO.out _).mono ?_; rintro e w1 ⟨rfl, rfl⟩
  go_wp2_with (refine wpList_load_mid rfl _ _ rfl _ _ rfl (pcl p) _ P0.out.range HU.out rfl HI.out ?_)
  refine (HC.out _).mono ?_; rintro e w1 ⟨rfl, hb1⟩
  have P1 := Lib.hid ((P0.out.alloc (.cells (pc (bare p)) 24)).keep hb1)
  have b1 := (b0.alloc (by simp) (.cells (pc (bare p)) 24)).trans (hb1.mono (by simp; omega))
  have y8 := P1.out.c8
  have y5 := P1.out.c5
  have g1 := b1.size
  clear P0 x6 x7 b0 hb1 HO HC PBare HB
  by_cases hc : c = 0
  · subst hc
    by_cases hl : 4000 < p.body.size
    · have e0 : sf = 2 := by rw [HSf.out]; simp [hl]
      have e1 : E = 2 := by rw [HE.out, e0]; simp
      have e2 : S = [] := by rw [HL.out, e1]; simp
      subst e2 e1
      clear HE HL HSf
      have hl' : (4000 : Int) < (p.body.size : Int) := by omega
      go_wp2_with fail
      go_ret2
      exact ⟨_, rfl, PRow.nil _ _, b1⟩
    · have e0 : sf = 0 := by rw [HSf.out]; simp [hl]
      have hl' : ¬ ((4000 : Int) < (p.body.size : Int)) := by omega
      by_cases hf : (p.body.size : Int) + 20 ≤ mtu
      · have e1 : E = 0 := by rw [HE.out, e0]; simp [hf]
        have e2 : S = [p] := by rw [HL.out, e1]; simp [hf]
        subst e2 e1
        clear HE HL HSf
        have hf2 : ¬ (mtu < (p.body.size : Int) + 20) := by omega
        go_wp2_with (refine wpList_load_mid rfl _ _ rfl _ _ rfl (pcl p) _ P1.out.range HU.out rfl HI.out ?_)
        go_ret2
        refine ⟨_, rfl, ?_, b1.alloc g1 _⟩
        exact World.ownsRow_lit (e := 24) (size := 9) (base := w.heap.size) w1 (pc p) 1 g1 (by unfold maxLen; omega) rfl
      · have hf2 : mtu < (p.body.size : Int) + 20 := by omega
        cases hd : p.dont with
        | true =>
          have e1 : E = 2 := by rw [HE.out, e0]; simp [hf, hd]
          have e2 : S = [] := by rw [HL.out, e1]; simp
          subst e2 e1
          clear HE HL HSf
          rw [hd] at y5
          have HD := Lib.hid hd
          clear hd
          go_wp2_with fail
          go_ret2
          exact ⟨_, rfl, PRow.nil _ _, b1⟩
        | false =>
          have e1 : E = 0 := by rw [HE.out, e0]; simp [hf, hd]
          have e2 : S = pks p (8 * st) (cnt p.body.size (8 * st)) := by rw [HL.out, e1, hR]; simp [hf]
          subst e2 e1
          clear HE HL HSf
          rw [hd] at y5
          have HD := Lib.hid hd
          clear hd
          have hst : (mtu - 20) / 8 = (st : Int) := by omega
          have hsb : st ≤ 175 ∧ 1 ≤ st := by omega
          rw [hR] at hT HCL
          generalize hcn : cnt p.body.size (8 * st) = n at *
          have HCn := Lib.hid hcn
          clear hcn
          go_wp2_with fail
          go_loopw [8, 10] (fun v i W => ∃ k : Nat, k ≤ n ∧ i = .int .i64 ((k * st : Nat) : Int) ∧ PRow W w1.heap.size v (pks p (8 * st) k) ∧ PB w.heap.size p W ∧ Below w1.heap.size w1 W) (fun _ i _ => (8000 - (intOf i)).toNat)
          case atStart => exact ⟨0, Nat.zero_le _, by simp, PRow.nil _ _, P1.out, Below.refl _ _⟩
          case round =>
            obtain ⟨k, hk, rfl, hRo, hP, hb⟩ := hrel
            have z8 := hP.c8
            have zlt := hP.lt
            have P := Lib.hid hP
            have hkt := hT k
            have e8 : k * (8 * st) = 8 * (k * st) := by rw [Nat.mul_left_comm]
            rw [e8] at hkt
            have HS : Hid ((k + 1) * st = k * st + st) := by show _ = _; rw [Nat.add_mul, Nat.one_mul]
            have HQ : Hid (pks p (8 * st) (k + 1) = pks p (8 * st) k ++ [pk p (8 * st) k]) := pks_succ p (8 * st) k
            have HK : Hid (pk p (8 * st) k = { p with off := ((k * st : Nat) : Int), more := decide (8 * (((k * st : Nat) : Int) + (st : Int)) < (p.body.size : Int)), body := p.body.extract (8 * (k * st)) (min (8 * (k * st) + 8 * st) p.body.size) }) := by
              exact pk_eq p k st
            have hln : (pks p (8 * st) k).length = k := pks_length _ _ _
            generalize pk p (8 * st) k = q at *
            generalize hacc : pks p (8 * st) k = acc at *
            have HAcc := Lib.hid hacc
            clear hacc
            have hmb : k * st ≤ 1000000 := Nat.le_trans (Nat.mul_le_mul (show k ≤ 4000 by omega) hsb.1) (by omega)
            generalize k * st = m at *
            clear hP e8
            by_cases hlt : k < n
            · have hlt' : 8 * (m : Int) < (p.body.size : Int) := by have := hkt.1 hlt; omega
              have hsl : ∀ w', (Instr.slice 9 (.string p.body) (some (.int .i64 (8 * (m : Int)))) (some (.int .i64 (min (p.body.size : Int) (8 * ((m : Int) + (st : Int)))))) none).run Try.prog w' = .ok (.string (p.body.extract (8 * m) (min (8 * m + 8 * st) p.body.size))) w' := fun w' => by
                have := run_slice_string (P := Try.prog) (w := w') 9 p.body .i64 .i64 (8 * (m : Int)) (min (p.body.size : Int) (8 * ((m : Int) + (st : Int)))) Try.underlying9 (by omega) (by omega) (by omega)
                rw [this]
                congr 3
                omega
              have R := Lib.hid hRo
              clear hRo hkt hT
              generalize p.body.extract (8 * m) (min (8 * m + 8 * st) p.body.size) = X at *
              go_wp2_with (refine wpList_load_mid rfl _ _ rfl _ _ rfl (pcl p) _ P.out.range HU.out rfl HI.out ?_)
              go_region
              have hq := HK.out
              subst hq
              have NB : Hid (((wr.alloc (.cells (pc { p with off := (m : Int), more := decide (8 * ((m : Int) + (st : Int)) < (p.body.size : Int)), body := X }) 24)).alloc (.cells (pc { p with off := (m : Int), more := decide (8 * ((m : Int) + (st : Int)) < (p.body.size : Int)), body := X }) 24)).drew.heap[wr.heap.size + 1]? = some (.cells (pc { p with off := (m : Int), more := decide (8 * ((m : Int) + (st : Int)) < (p.body.size : Int)), body := X }) 24 (0, 0))) := by
                have := heap_alloc_new (wr.alloc (.cells (pc { p with off := (m : Int), more := decide (8 * ((m : Int) + (st : Int)) < (p.body.size : Int)), body := X }) 24)) (.cells (pc { p with off := (m : Int), more := decide (8 * ((m : Int) + (st : Int)) < (p.body.size : Int)), body := X }) 24)
                rwa [show (wr.alloc (.cells (pc { p with off := (m : Int), more := decide (8 * ((m : Int) + (st : Int)) < (p.body.size : Int)), body := X }) 24)).heap.size = wr.heap.size + 1 from by simp] at this
              have R3 : Hid (((wr.alloc (.cells (pc { p with off := (m : Int), more := decide (8 * ((m : Int) + (st : Int)) < (p.body.size : Int)), body := X }) 24)).alloc (.cells (pc { p with off := (m : Int), more := decide (8 * ((m : Int) + (st : Int)) < (p.body.size : Int)), body := X }) 24)).drew.ownsRow w1.heap.size 24 9 u8 acc.length (pcells acc)) := own_drew (World.ownsRow.alloc (World.ownsRow.alloc R.out _) _)
              have b3 : Below w1.heap.size w1 ((wr.alloc (.cells (pc { p with off := (m : Int), more := decide (8 * ((m : Int) + (st : Int)) < (p.body.size : Int)), body := X }) 24)).alloc (.cells (pc { p with off := (m : Int), more := decide (8 * ((m : Int) + (st : Int)) < (p.body.size : Int)), body := X }) 24)).drew := ((hb.alloc hb.size _).alloc (by have := hb.size; simp; omega) _).drew
              have P3 := Lib.hid (((P.out.alloc (.cells (pc { p with off := (m : Int), more := decide (8 * ((m : Int) + (st : Int)) < (p.body.size : Int)), body := X }) 24)).alloc (.cells (pc { p with off := (m : Int), more := decide (8 * ((m : Int) + (st : Int)) < (p.body.size : Int)), body := X }) 24)).drew)
              have olt := World.ownsRow.lt R.out
              have hbs := hb.size
              have p1lt := P1.out.lt
              go_wp2_with (at_builtin; refine wpList_append_lies _ rfl _ _ _ rfl w1.heap.size 24 i0 _ 9 64 Try.underlying25 hi0 hz0 hz1 hz2 rfl (by omega) u8 acc.length (pcells acc) rfl R3.out ⟨wr.heap.size + 1, 0, none⟩ 1 1 (pcl { p with off := (m : Int), more := decide (8 * ((m : Int) + (st : Int)) < (p.body.size : Int)), body := X }) rfl rfl (World.news_of_block (cs := pc { p with off := (m : Int), more := decide (8 * ((m : Int) + (st : Int)) < (p.body.size : Int)), body := X }) (t := 24) (fr := (0, 0)) NB.out) (pcl_one _) (by omega) (by unfold maxLen; omega) (by omega) (by simp; omega) (wr.heap.size + 2) (by simp) ?_; intro g cap w4 own4 hgrow hat hglt)
              have hb4 : Below w1.heap.size w1 w4 := b3.grown hgrow (by simp; omega) (fun j hj => (olt j hj).1)
              have hP4 : PB w.heap.size p w4 := (hgrow.block w.heap.size (by simp; omega) (fun hh => by have := olt _ hh.symm; omega)).trans P3.out
              have hR4 : PRow w4 w1.heap.size (.slice (some ⟨g, 0, none⟩) (acc.length + 1) cap) (acc ++ [{ p with off := (m : Int), more := decide (8 * ((m : Int) + (st : Int)) < (p.body.size : Int)), body := X }]) := by
                show w4.ownsRow _ _ _ _ (acc ++ [_]).length (pcells (acc ++ [_]))
                rw [pcells_append, List.length_append]
                simpa [pcells] using own4
              go_roundw
              case rel => exact ⟨k + 1, by omega, by have e := HS.out; have e2 : (((k + 1) * st : Nat) : Int) = (m : Int) + (st : Int) := (by rw [e]; omega); first | (rw [e2]) | (simp only [Int.natCast_mul] at e2 ⊢; rw [e2]), by rw [HQ.out, ← hln]; exact hR4, hP4, hb4⟩
              case measure => simp [intOf]; omega
            · have hge : ¬ (8 * m < p.body.size) := fun hc => hlt (hkt.2 hc)
              obtain rfl : k = n := by omega
              have hmi : ¬ (8 * (m : Int) < (p.body.size : Int)) := by omega
              have hmd : decide (8 * (m : Int) < (p.body.size : Int)) = false := decide_eq_false hmi
              clear hge hkt hT hlt HK
              go_wp2_with fail
              go_ret2
              exact ⟨_, rfl, by rw [HCn.out, HAcc.out]; exact own_base hRo g1, b1.trans (hb.mono g1)⟩
  · have hne : (c != 0) = true := by simpa using hc
    have e0 : sf = c := by rw [HSf.out]; simp [hc]
    have e1 : E = c := by rw [HE.out, e0]; simp [hc]
    have e2 : S = [] := by rw [HL.out, e1]; simp [hc]
    subst e2 e1
    clear HE HL HSf hc
    go_wp2_with fail
    go_ret2
    exact ⟨_, rfl, PRow.nil _ _, b1⟩

theorem rsplit_any (p : Pk) (mtu : Int) (w : World) :
    Calls Try.prog 10 #[pv p, .int .i64 mtu] w fun e w' => ∃ v, e = .returned (.tuple #[v, .int .i64 (sperr p mtu)]) ∧ PRow w' w.heap.size v (spl p mtu) ∧ Below w.heap.size w w' := by
  by_cases h : mtu < 28 ∨ 1420 < mtu ∨ p.more = true ∨ p.off ≠ 0
  · have e0 : sflt p mtu = 1 := by unfold sflt; rw [if_pos h]
    have e1 : sperr p mtu = 1 := by unfold sperr; rw [e0]; simp
    refine (rsplit_one p mtu w h).mono ?_
    rintro e w' ⟨rfl, hb⟩
    rw [e1, spl_bad (by rw [e1]; decide)]
    exact ⟨_, rfl, PRow.nil _ _, hb⟩
  · exact rsplit_two p mtu w h
end Go.Proofs.Ytfnmcnbiahfnfaa
