/-
  The closure of FragWhole.
-/
import Derived.Test.YtfnmcnbiahfnfaaWb
namespace Go.Proofs.Ytfnmcnbiahfnfaa
open Go.RowKit Go.Maps
set_option linter.unusedVariables false
set_option linter.unusedSimpArgs false

set_option maxHeartbeats 16000000 in
set_option maxRecDepth 100000 in
theorem putC0 (G : Geo) (p q : Pk) (R1 n1 R2 n2 base : Nat) (J1 J2 : Nat → Bool) (mtu : Int) (j k : Nat) (W : World) (A : List Ent) (hj : j < n1) (hk : k = j) (h8 : n1 + n2 ≤ 8000)
    (F : Frm p mtu R1 n1) (hne : nmOf p ≠ nmOf q) (fq : Fits (pk p R1 j)) (GO : GeoOk G base) (hJ : J1 j = false) (hf : ∀ i, i < n1 → (J1 i || decide (i = j)) = true) (h : AS G p q R1 n1 R2 n2 base (lft n1 J1) (lft n2 J2) (sn n1 J1 J2) J1 J2 W A) :
    Calls Try.prog 20 #[.int .i64 (k : Int), .pointer (some ⟨G.pb, 0, none⟩), .pointer (some ⟨G.ab, 0, none⟩), .pointer (some ⟨G.qb, 0, none⟩), .pointer (some ⟨G.tx, 0, none⟩), .pointer (some ⟨G.al, 0, none⟩), .pointer (some ⟨G.sx, 0, none⟩), .pointer (some ⟨G.lf, 0, none⟩)] W
      fun e W' => e = .returned (.bool true) ∧ ∃ A', AS G p q R1 n1 R2 n2 base (lft n1 (fun _ => false)) (lft n2 J2) (sn n1 (fun _ => false) J2) (fun _ => false) J2 W' A' ∧ Below base W W' := by
  have HIn : Hid (∀ tb mb A q w', Tab w' tb mb A → Fits q → Calls Try.prog 16 #[.pointer (some ⟨tb, 0, none⟩), pv q] w' (InPost w' tb mb A q)) := fun tb mb A q w' h f => in_any tb mb A q w' h f
  obtain ⟨hv, hnx⟩ := h.ta.full0 F hne hj hf
  have HV := Lib.hid hv
  have HX := Lib.hid hnx
  have HU := Lib.hid Try.underlying24
  have HI : Hid ((Try.prog.info? 24).map (·.size) = some 9) := info24
  have HGO := Lib.hid GO
  obtain ⟨N, hN⟩ : ∃ N, N = n1 + n2 := ⟨_, rfl⟩
  have hkN : k < N := by rw [hN, hk]; omega
  have hN8 : N ≤ 8000 := by omega
  have HN := Lib.hid hN
  have hx : (pks p R1 n1 ++ pks q R2 n2)[k]? = some (pk p R1 j) := by
    rw [hk, List.getElem?_append_left (by rw [pks_length]; exact hj)]; exact pks_get p R1 n1 j hj
  have HXr : Hid (∀ {x y S J1 J2 W A}, AS G p q R1 n1 R2 n2 base x y S J1 J2 W A → W.rangeAt G.g (k * 9) (pcl (pk p R1 j))) := fun h => h.fx.row k _ hx
  have HS0 : sn n1 J1 J2 k = J1 j := by
    unfold sn; rw [hk, if_pos hj]
  rw [hJ] at HS0
  have HSk := Lib.hid HS0
  have A0 := Lib.hid h
  have hlo := h.lo
  have hlb := lft_bound n1 J1
  have hl1 : lft n1 J1 = 1 := by have h1 := lft_zero hf; rw [lft_add hj hJ] at h1; omega
  have hkn : ¬ ((n1 : Int) ≤ (k : Int)) := by omega
  have HJN : Hid (J1 j = false) := hJ
  have hn2N : n1 ≤ N ∧ n2 ≤ N := by omega
  have Hkj := Lib.hid hk
  have Hjn := Lib.hid hj
  clear hv hnx F hne hx hf h GO HS0 hN hk hJ h8 hj
  rw [hl1] at A0
  clear hl1 hlb
  generalize pk p R1 j = x at *
  go_enter Try.func20, Try.ntmps20
  go_wp2_with fail
  have x0 : Hid (W.drew.rangeAt G.pb 0 (pcl p)) := PB.range (W := W.drew) A0.out.fx.bp
  have x1 : Hid ((W.drew.alloc (.cells pzc 24)).rangeAt G.pb 0 (pcl p)) := World.rangeAt_alloc x0.out _
  have x2 : Hid ((W.drew.alloc (.cells (pc p) 24)).rangeAt G.pb 0 (pcl p)) := World.rangeAt_alloc x0.out _
  refine wp_region_held_drew (S := fun w' => Hid (w'.rangeAt G.pb 0 (pcl p))) (by kernel_rfl) x0 (fun hHeld => ?_)
  refine takeH (i := 0) (d := some 16) rfl rfl (by kernel_rfl) (by kernel_rfl) (by kernel_rfl) (fun _ _ _ h => h) (yieldsIf_load_mid (by rfl) _ _ rfl _ _ rfl (pcl p) _ (fun w' hSw => hSw.out) HU.out rfl HI.out) hHeld ?_
  simp only [Act.put, List.setIfInBounds_toArray, List.set_cons_zero, List.set_cons_succ]
  refine wpAnyH_ready (rs := [1]) (by kernel_rfl) (by simp) ?_
  refine AllReadyH.cons rfl (fun K hK => ?_) AllReadyH.nil
  refine wp_alloc24' (d := 11) rfl rfl ?_
  clear hHeld
  refine hK.out _ _ x1 (fun hHeld => ?_)
  clear hK K
  try simp only [Act.put, List.setIfInBounds_toArray, List.set_cons_zero, List.set_cons_succ]
  refine takeH (i := 2) (d := some 10) (v := ?_) rfl rfl (by kernel_rfl) (by kernel_rfl) (by kernel_rfl) (fun _ _ _ h => h) (Or.inl ⟨by rfl, ?_⟩) hHeld ?_
  rotate_left
  · intro w' hSw; (try dsimp only at hSw); go_simp; try with_reducible rfl
  simp only [Act.put, List.setIfInBounds_toArray, List.set_cons_zero, List.set_cons_succ]
  refine wpAnyH_ready (rs := [3]) (by kernel_rfl) (by simp) ?_
  refine AllReadyH.cons rfl (fun K hK => ?_) AllReadyH.nil
  refine wp_store_last' rfl 24 _ _ rfl W.drew _ (pc p) rfl rfl rfl HI.out rfl (pc_one p) ?_
  clear hHeld
  refine hK.out _ _ x2 (fun hHeld => ?_)
  clear hK K
  try simp only [Act.put, List.setIfInBounds_toArray, List.set_cons_zero, List.set_cons_succ]
  refine wpAnyH_done (by kernel_rfl) ?_ _
  clear hHeld x0 x1 x2
  have b1 : Below W.heap.size W (W.drew.alloc (.cells (pc p) 24)) := ((Below.refl _ _).drew).alloc (Nat.le_refl _) _
  have hsz : W.drew.heap.size = W.heap.size := rfl
  have T1 : Hid (PB W.heap.size p (W.drew.alloc (.cells (pc p) 24))) := PB.new W.drew p
  have A1 := Lib.hid (A0.out.on b1)
  rw [hsz]
  clear hsz
  generalize W.drew.alloc (.cells (pc p) 24) = W1 at *
  have ca := A1.out.cA
  go_wp2_with fail
  clear ca
  have A3 : Hid (AS G p q R1 n1 R2 n2 base _ _ _ J1 J2 W1.drew A) := A1.out.on ((Below.refl _ _).drew)
  have T3 : Hid (PB W.heap.size p W1.drew) := T1.out
  have b3 : Below W.heap.size W W1.drew := b1.drew
  have HSx : Hid (∀ {x' y' S J1 J2 W' A}, AS G p q R1 n1 R2 n2 base x' y' S J1 J2 W' A → W'.cell? ⟨G.tx, 0, none⟩ = some (.pointer (some ⟨G.tb, 0, none⟩)) ∧ W'.cell? ⟨G.al, 0, none⟩ = some (.slice (some ⟨G.g, 0, none⟩) N G.cap) ∧ Hid (W'.rangeAt G.g (k * 9) (pcl x))) := fun h => ⟨h.cT, h.cAl HN.out, HXr.out h⟩
  refine wp_region_held_drew (S := fun w' => w'.cell? ⟨G.tx, 0, none⟩ = some (.pointer (some ⟨G.tb, 0, none⟩)) ∧ w'.cell? ⟨G.al, 0, none⟩ = some (.slice (some ⟨G.g, 0, none⟩) N G.cap) ∧ Hid (w'.rangeAt G.g (k * 9) (pcl x))) (by kernel_rfl) (HSx.out A3.out) (fun hHeld => ?_)
  generalize W1.drew = W3 at *
  clear A1 T1 b1
  refine takeH (i := 0) (d := some 23) (v := ?_) rfl rfl (by kernel_rfl) (by kernel_rfl) (by kernel_rfl) (fun _ _ _ h => h) (Or.inl ⟨by rfl, ?_⟩) hHeld ?_
  rotate_left
  · intro w' hSw; (try dsimp only at hSw); obtain ⟨c1, c2, c3⟩ := hSw; go_simp; try with_reducible rfl
  simp only [Act.put, List.setIfInBounds_toArray, List.set_cons_zero, List.set_cons_succ]
  refine takeH (i := 1) (d := some 24) (v := ?_) rfl rfl (by kernel_rfl) (by kernel_rfl) (by kernel_rfl) (fun _ _ _ h => h) (Or.inl ⟨by rfl, ?_⟩) hHeld ?_
  rotate_left
  · intro w' hSw; (try dsimp only at hSw); obtain ⟨c1, c2, c3⟩ := hSw; go_simp; try with_reducible rfl
  simp only [Act.put, List.setIfInBounds_toArray, List.set_cons_zero, List.set_cons_succ]
  refine takeH (i := 2) (d := some 25) (v := ?_) rfl rfl (by kernel_rfl) (by kernel_rfl) (by kernel_rfl) (fun _ _ _ h => h) (Or.inl ⟨by rfl, ?_⟩) hHeld ?_
  rotate_left
  · intro w' hSw; (try dsimp only at hSw); go_simp; try with_reducible rfl
  simp only [Act.put, List.setIfInBounds_toArray, List.set_cons_zero, List.set_cons_succ]
  refine takeH (i := 3) (d := some 26) (v := ?_) rfl rfl (by kernel_rfl) (by kernel_rfl) (by kernel_rfl) (fun _ _ _ h => h) (Or.inl ⟨by rfl, ?_⟩) hHeld ?_
  rotate_left
  · intro w' hSw; (try dsimp only at hSw); go_simp; try with_reducible rfl
  simp only [Act.put, List.setIfInBounds_toArray, List.set_cons_zero, List.set_cons_succ]
  refine takeH (i := 4) (d := some 27) rfl rfl (by kernel_rfl) (by kernel_rfl) (by kernel_rfl) (fun _ _ _ h => h) (yieldsIf_load_mid (by rfl) _ _ rfl G.g (k * 9) rfl (pcl x) _ (fun w' hSw => hSw.2.2.out) HU.out rfl HI.out) hHeld ?_
  simp only [Act.put, List.setIfInBounds_toArray, List.set_cons_zero, List.set_cons_succ]
  refine wpAnyH_ready (rs := [5, 10]) (by kernel_rfl) (by simp) ?_
  refine AllReadyH.cons rfl (fun K hK => ?_) (AllReadyH.cons rfl (fun K hK => ?_) AllReadyH.nil)
  · go_simp
    refine (HIn.out _ _ _ _ _ A3.out.ta.tab fq).mono ?_; rintro e w7 ⟨A', rfl, hT7, hab, hk7, hs7⟩
    obtain ⟨hA7, hb7⟩ := A3.out.in hk7 hs7 (HX.out w7 A' hT7 hab)
    have A7 := Lib.hid hA7
    rw [HV.out]
    have ez : pv ((p, true, (0 : Int))).1 = .agg (pc p) := rfl
    rw [ez]
    clear ez
    have T7 : Hid (PB W.heap.size p w7) := (hk7.block _ T3.out.lt (A0.out.farMb (Nat.le_refl _))).trans T3.out
    have b7 : Below base W w7 := (b3.mono hlo).trans hb7
    have z7 := b7.size
    clear hHeld hT7 hab hk7 hs7 hA7 hb7
    refine hK.out _ _ (HSx.out A7.out) (fun hHeld => ?_)
    clear hK K
    try simp only [Act.put, List.setIfInBounds_toArray, List.set_cons_zero, List.set_cons_succ]
    refine takeH (i := 6) (d := some 22) (v := ?_) rfl rfl (by kernel_rfl) (by kernel_rfl) (by kernel_rfl) (fun _ _ _ h => h) (Or.inl ⟨by rfl, ?_⟩) hHeld ?_
    rotate_left
    · intro w' hSw; (try dsimp only at hSw); go_simp; try with_reducible rfl
    simp only [Act.put, List.setIfInBounds_toArray, List.set_cons_zero, List.set_cons_succ]
    refine takeH (i := 7) (d := some 29) (v := ?_) rfl rfl (by kernel_rfl) (by kernel_rfl) (by kernel_rfl) (fun _ _ _ h => h) (Or.inl ⟨by rfl, ?_⟩) hHeld ?_
    rotate_left
    · intro w' hSw; (try dsimp only at hSw); go_simp; try with_reducible rfl
    simp only [Act.put, List.setIfInBounds_toArray, List.set_cons_zero, List.set_cons_succ]
    refine takeH (i := 8) (d := some 30) (v := ?_) rfl rfl (by kernel_rfl) (by kernel_rfl) (by kernel_rfl) (fun _ _ _ h => h) (Or.inl ⟨by rfl, ?_⟩) hHeld ?_
    rotate_left
    · intro w' hSw; (try dsimp only at hSw); go_simp; try with_reducible rfl
    simp only [Act.put, List.setIfInBounds_toArray, List.set_cons_zero, List.set_cons_succ]
    refine takeH (i := 9) (d := some 31) (v := ?_) rfl rfl (by kernel_rfl) (by kernel_rfl) (by kernel_rfl) (fun _ _ _ h => h) (Or.inl ⟨by rfl, ?_⟩) hHeld ?_
    rotate_left
    · intro w' hSw; (try dsimp only at hSw); go_simp; try with_reducible rfl
    simp only [Act.put, List.setIfInBounds_toArray, List.set_cons_zero, List.set_cons_succ]
    have A8 := Lib.hid (A7.out.on ((Below.refl _ _).alloc (Nat.le_refl _) (.cells pzc 24)))
    have A9 := Lib.hid (A7.out.on ((Below.refl _ _).alloc (Nat.le_refl _) (.cells (pc p) 24)))
    refine wpAnyH_ready (rs := [10]) (by kernel_rfl) (by simp) ?_
    refine AllReadyH.cons rfl (fun K hK => ?_) AllReadyH.nil
    refine wp_alloc24' (d := 12) rfl rfl ?_
    clear hHeld
    refine hK.out _ _ (HSx.out A8.out) (fun hHeld => ?_)
    clear hK K
    try simp only [Act.put, List.setIfInBounds_toArray, List.set_cons_zero, List.set_cons_succ]
    refine wpAnyH_ready (rs := [11]) (by kernel_rfl) (by simp) ?_
    refine AllReadyH.cons rfl (fun K hK => ?_) AllReadyH.nil
    refine wp_store_last' rfl 24 _ _ rfl w7 _ (pc p) rfl rfl rfl HI.out rfl (pc_one p) ?_
    clear hHeld
    refine hK.out _ _ (HSx.out A9.out) (fun hHeld => ?_)
    clear hK K
    try simp only [Act.put, List.setIfInBounds_toArray, List.set_cons_zero, List.set_cons_succ]
    refine takeH (i := 12) (d := some 13) (v := ?_) rfl rfl (by kernel_rfl) (by kernel_rfl) (by kernel_rfl) (fun _ _ _ h => h) (Or.inl ⟨by rfl, ?_⟩) hHeld ?_
    rotate_left
    · intro w' hSw; (try dsimp only at hSw); go_simp; try with_reducible rfl
    simp only [Act.put, List.setIfInBounds_toArray, List.set_cons_zero, List.set_cons_succ]
    refine takeH (i := 13) (d := some 14) (v := ?_) rfl rfl (by kernel_rfl) (by kernel_rfl) (by kernel_rfl) (fun _ _ _ h => h) (Or.inl ⟨by rfl, ?_⟩) hHeld ?_
    rotate_left
    · intro w' hSw; (try dsimp only at hSw); go_simp; try with_reducible rfl
    simp only [Act.put, List.setIfInBounds_toArray, List.set_cons_zero, List.set_cons_succ]
    refine wpAnyH_done (by kernel_rfl) ?_ _
    have X9 : Hid (PB w7.heap.size p (w7.alloc (.cells (pc p) 24))) := heap_alloc_new _ _
    have T9 := Lib.hid (T7.out.alloc (.cells (pc p) 24))
    have b9 : Below base W (w7.alloc (.cells (pc p) 24)) := b7.alloc (by omega) _
    have hxt := T7.out.lt
    clear hHeld A8 A7 T7 b7 A3 T3 b3
    have hxb : W.heap.size < w7.heap.size := hxt
    generalize w7.alloc (.cells (pc p) 24) = W9 at *
    generalize w7.heap.size = xb at *
    clear z7
    have hlk := A9.out.sm.look (by rw [← HN.out]; exact hN8) (k := k) (by rw [← HN.out]; exact hkN)
    rw [HSk.out, show b01 false = 0 from rfl] at hlk
    have cs := A9.out.cS
    have cl := A9.out.lf.c0
    have fr := A9.out.lf.free 0
    have hlf := A0.out.lf.lt
    have hsm := A0.out.sm.lt
    have A10 := Lib.hid (A9.out.setL0 HGO.out 0)
    have cs1 := A10.out.cS
    obtain ⟨W11, hup, hA11, hK11⟩ := A10.out.put HGO.out (by rw [← HN.out]; exact hN8) (k := k) (by rw [← HN.out]; exact hkN) true
    rw [show b01 true = 1 from rfl] at hup
    have A11 := Lib.hid hA11
    have b10 := b9.setCell (p := ⟨G.lf, 0, none⟩) HGO.out.lf (.int .i64 0)
    have b11 := b10.trans (hK11.below A10.out.lo (by simp; exact HGO.out.sm))
    have X10 := X9.out.setOther (k := G.lf) (by omega) 0 (.int .i64 0)
    have X11 : Hid (PB xb p W11) := (hK11.block _ X10.lt (by simp; omega)).trans X10
    have T10 := T9.out.setOther (k := G.lf) (by omega) 0 (.int .i64 0)
    have T11 : Hid (PB W.heap.size p W11) := (hK11.block _ T10.lt (by simp; omega)).trans T10
    have cl1 := A11.out.lf.c0
    have cs2 := A11.out.cS
    clear A0 HIn HV HX HXr HSx hlo fq hA11 hK11 b9 b10 X9 X10 T9 T10 A10
    have fr1 := A11.out.lf.free 0
    have A12 := Lib.hid (A11.out.setL0 HGO.out 0)
    have b12 := b11.setCell (p := ⟨G.lf, 0, none⟩) HGO.out.lf (.int .i64 0)
    have X12 := Lib.hid (X11.out.setOther (k := G.lf) (by omega) 0 (.int .i64 0))
    have T12 := Lib.hid (T11.out.setOther (k := G.lf) (by omega) 0 (.int .i64 0))
    have cal := A12.out.cAl HN.out
    go_wp2_with fail
    clear cl cs cs1 cs2 cl1 fr fr1 cal hup hlk b11 X11 T11 A11 A9
    generalize W11.setCell ⟨G.lf, 0, none⟩ (.int .i64 0) = W12 at *
    go_loopw [60] (fun i V => ∃ m : Nat, m ≤ N ∧ i = .int .i64 m ∧ AS G p q R1 n1 R2 n2 base ((min m n1 : Nat) : Int) (lft n2 J2) (fun i => if i < m ∧ i < n1 then false else if i = k then true else sn n1 J1 J2 i) (fun _ => false) J2 V A' ∧ PB xb p V ∧ PB W.heap.size p V ∧ Below base W V) (fun i _ => N - (intOf i).toNat)
    case atStart =>
      refine ⟨0, Nat.zero_le _, rfl, ?_, X12.out, T12.out, b12⟩
      rw [Nat.zero_min]
      exact A12.out.congrS (fun i _ => by rw [if_neg (by omega)])
    case round =>
      obtain ⟨m, hm, rfl, hA, hX, hT, hb⟩ := hrel
      clear A12 X12 T12 b12
      have AA := Lib.hid hA
      have XX := Lib.hid hX
      have TT := Lib.hid hT
      have ca := AA.out.cA
      clear hA hX hT
      by_cases hlt : m < N
      · by_cases hin : m < n1
        · have e0 : min m n1 = m := by omega
          rw [e0] at AA
          have cl := AA.out.lf.c0
          have fr := AA.out.lf.free 0
          have B1 := Lib.hid (AA.out.setL0 HGO.out ((m : Int) + 1))
          have cs1 := B1.out.cS
          obtain ⟨V2, hup, hA2, hK2⟩ := B1.out.put HGO.out (by rw [← HN.out]; exact hN8) (k := m) (by rw [← HN.out]; exact hlt) false
          rw [show b01 false = 0 from rfl] at hup
          have A2 := Lib.hid hA2
          have b1 := hb.setCell (p := ⟨G.lf, 0, none⟩) HGO.out.lf (.int .i64 ((m : Int) + 1))
          have b2 := b1.trans (hK2.below B1.out.lo (by simp; exact HGO.out.sm))
          have X1 := XX.out.setOther (k := G.lf) (by omega) 0 (.int .i64 ((m : Int) + 1))
          have X2 : Hid (PB xb p V2) := (hK2.block _ X1.lt (by simp; omega)).trans X1
          have T1 := TT.out.setOther (k := G.lf) (by omega) 0 (.int .i64 ((m : Int) + 1))
          have T2 : Hid (PB W.heap.size p V2) := (hK2.block _ T1.lt (by simp; omega)).trans T1
          clear hA2 hK2 b1 X1 T1 B1 AA XX TT hb
          have hin' : ¬ ((n1 : Int) ≤ (m : Int)) := by omega
          have hlt' : (m : Int) < (N : Int) := by omega
          go_wp2_with fail
          go_roundw
          case rel =>
            refine ⟨m + 1, by omega, by go_num, ?_, X2.out, T2.out, b2⟩
            rw [show min (m + 1) n1 = m + 1 from by omega]
            have hfin := A2.out.congrS (S' := fun i => if i < m + 1 ∧ i < n1 then false else if i = k then true else sn n1 J1 J2 i) (fun i _ => ?_)
            · exact_mod_cast hfin
            · by_cases hi : i = m
              · rw [if_pos (by omega), if_pos hi]
              · rw [if_neg hi]
                by_cases h1 : i < m ∧ i < n1
                · rw [if_pos h1, if_pos (by omega)]
                · rw [if_neg h1, if_neg (by omega)]
          case measure => simp [intOf]; omega
        · have hin' : (n1 : Int) ≤ (m : Int) := by omega
          have hlt' : (m : Int) < (N : Int) := by omega
          go_wp2_with fail
          go_roundw
          case rel =>
            refine ⟨m + 1, by omega, by go_num, ?_, XX.out, TT.out, hb⟩
            rw [show min (m + 1) n1 = min m n1 from by omega]
            exact AA.out.congrS (fun i _ => by
              by_cases h1 : i < m ∧ i < n1
              · rw [if_pos h1, if_pos (by omega)]
              · rw [if_neg h1, if_neg (by omega)])
          case measure => simp [intOf]; omega
      · obtain rfl : m = N := by omega
        have hlt' : ¬ ((m : Int) < (m : Int)) := by omega
        go_wp2_with (first | (refine wpList_load_mid rfl 24 _ rfl xb 0 rfl (pcl p) _ XX.out.range HU.out rfl HI.out ?_) | (refine wpList_load_mid rfl 24 _ rfl W.heap.size 0 rfl (pcl p) _ TT.out.range HU.out rfl HI.out ?_))
        go_ret
        first | refine ⟨by simp, ⟨A', ?_⟩, hb⟩ | refine ⟨by simp, A', ?_, hb⟩
        rw [lft_none, show (n1 : Int) = ((min m n1 : Nat) : Int) from by omega]
        exact AA.out.congrS (fun i hi => sn_end0 _ _ Hkj.out Hjn.out (by rw [HN.out]; exact hi))
  · have A4 := Lib.hid (A3.out.on ((Below.refl _ _).alloc (Nat.le_refl _) (.cells pzc 24)))
    have T4 := Lib.hid (T3.out.alloc (.cells pzc 24))
    have X4 : Hid (PB W3.heap.size pz (W3.alloc (.cells pzc 24))) := PB.newz _
    have b4 : Below W.heap.size W (W3.alloc (.cells pzc 24)) := b3.alloc b3.size _
    refine wp_alloc24' (d := 12) rfl rfl ?_
    clear hHeld
    refine hK.out _ _ (HSx.out A4.out) (fun hHeld => ?_)
    clear hK K
    try simp only [Act.put, List.setIfInBounds_toArray, List.set_cons_zero, List.set_cons_succ]
    have hxb : W.heap.size < W3.heap.size := T3.out.lt
    have hfar := A3.out.farMb (b := W3.heap.size) (Nat.le_refl _)
    generalize W3.alloc (.cells pzc 24) = W4 at *
    generalize W3.heap.size = xb at *
    refine wpAnyH_ready (rs := [5]) (by kernel_rfl) (by simp) ?_
    refine AllReadyH.cons rfl (fun K hK => ?_) AllReadyH.nil
    go_simp
    refine (HIn.out _ _ _ _ _ A4.out.ta.tab fq).mono ?_; rintro e w7 ⟨A', rfl, hT7, hab, hk7, hs7⟩
    obtain ⟨hA7, hb7⟩ := A4.out.in hk7 hs7 (HX.out w7 A' hT7 hab)
    have A7 := Lib.hid hA7
    rw [HV.out]
    have ez : pv ((p, true, (0 : Int))).1 = .agg (pc p) := rfl
    rw [ez]
    clear ez
    have T7 : Hid (PB W.heap.size p w7) := (hk7.block _ T4.out.lt (A0.out.farMb (Nat.le_refl _))).trans T4.out
    have X7 : Hid (PB xb pz w7) := (hk7.block _ X4.out.lt hfar).trans X4.out
    have b7 : Below base W w7 := (b4.mono hlo).trans hb7
    clear hHeld hT7 hab hk7 hs7 hA7 hb7
    refine hK.out _ _ (HSx.out A7.out) (fun hHeld => ?_)
    clear hK K
    try simp only [Act.put, List.setIfInBounds_toArray, List.set_cons_zero, List.set_cons_succ]
    refine takeH (i := 6) (d := some 22) (v := ?_) rfl rfl (by kernel_rfl) (by kernel_rfl) (by kernel_rfl) (fun _ _ _ h => h) (Or.inl ⟨by rfl, ?_⟩) hHeld ?_
    rotate_left
    · intro w' hSw; (try dsimp only at hSw); go_simp; try with_reducible rfl
    simp only [Act.put, List.setIfInBounds_toArray, List.set_cons_zero, List.set_cons_succ]
    refine takeH (i := 7) (d := some 29) (v := ?_) rfl rfl (by kernel_rfl) (by kernel_rfl) (by kernel_rfl) (fun _ _ _ h => h) (Or.inl ⟨by rfl, ?_⟩) hHeld ?_
    rotate_left
    · intro w' hSw; (try dsimp only at hSw); go_simp; try with_reducible rfl
    simp only [Act.put, List.setIfInBounds_toArray, List.set_cons_zero, List.set_cons_succ]
    refine takeH (i := 8) (d := some 30) (v := ?_) rfl rfl (by kernel_rfl) (by kernel_rfl) (by kernel_rfl) (fun _ _ _ h => h) (Or.inl ⟨by rfl, ?_⟩) hHeld ?_
    rotate_left
    · intro w' hSw; (try dsimp only at hSw); go_simp; try with_reducible rfl
    simp only [Act.put, List.setIfInBounds_toArray, List.set_cons_zero, List.set_cons_succ]
    refine takeH (i := 9) (d := some 31) (v := ?_) rfl rfl (by kernel_rfl) (by kernel_rfl) (by kernel_rfl) (fun _ _ _ h => h) (Or.inl ⟨by rfl, ?_⟩) hHeld ?_
    rotate_left
    · intro w' hSw; (try dsimp only at hSw); go_simp; try with_reducible rfl
    simp only [Act.put, List.setIfInBounds_toArray, List.set_cons_zero, List.set_cons_succ]
    have X9 := Lib.hid (X7.out.setAll p)
    have hx7 := X7.out
    have hneb : ∀ k ∈ G.mb :: blks A', k ∉ [xb] := fun k hm hc => by
      rw [List.mem_singleton] at hc
      rw [hc] at hm
      rcases List.mem_cons.1 hm with hm | hm
      · obtain ⟨D, ⟨es, c, hmm, _⟩, _⟩ := A7.out.ta.tab.own
        have := hx7
        unfold PB at this
        rw [hm, hmm] at this; cases this
      · obtain ⟨e, he, e2⟩ := mem_blks.1 hm
        obtain ⟨a, ha, _⟩ := A7.out.ta.tab.grams e he
        have := hx7
        unfold PB at this
        rw [← e2, ha] at this; simp at this
    have K9 : Kp [xb] w7 (w7.setCells xb 0 (pcl p)) := Kp.setCells _ _ (Kp.refl _ _) (Or.inl (by simp))
    have A9 : Hid (AS G p q R1 n1 R2 n2 base _ _ _ (fun _ => false) J2 (w7.setCells xb 0 (pcl p)) A') := A7.out.kp K9 (fun k hm => by have := A0.out.fx.lt k hm; simp; omega) (by have := A0.out.lf.lt; simp; omega) (by have := A0.out.sm.lt; simp; omega) (by have := A0.out.ta.tab.lt; simp; omega) hneb
    have T9 : Hid (PB W.heap.size p (w7.setCells xb 0 (pcl p))) := (K9.block _ T7.out.lt (by simp; omega)).trans T7.out
    have b9 : Below base W (w7.setCells xb 0 (pcl p)) := below_setCells b7 (by omega) _ _
    refine wpAnyH_ready (rs := [11]) (by kernel_rfl) (by simp) ?_
    refine AllReadyH.cons rfl (fun K hK => ?_) AllReadyH.nil
    refine wp_store_mid' rfl 24 _ _ rfl xb 0 (pc p) rfl rfl X7.out.there HI.out (pc_one p) ?_
    clear hHeld
    refine hK.out _ _ (HSx.out A9.out) (fun hHeld => ?_)
    clear hK K
    try simp only [Act.put, List.setIfInBounds_toArray, List.set_cons_zero, List.set_cons_succ]
    refine takeH (i := 12) (d := some 13) (v := ?_) rfl rfl (by kernel_rfl) (by kernel_rfl) (by kernel_rfl) (fun _ _ _ h => h) (Or.inl ⟨by rfl, ?_⟩) hHeld ?_
    rotate_left
    · intro w' hSw; (try dsimp only at hSw); go_simp; try with_reducible rfl
    simp only [Act.put, List.setIfInBounds_toArray, List.set_cons_zero, List.set_cons_succ]
    refine takeH (i := 13) (d := some 14) (v := ?_) rfl rfl (by kernel_rfl) (by kernel_rfl) (by kernel_rfl) (fun _ _ _ h => h) (Or.inl ⟨by rfl, ?_⟩) hHeld ?_
    rotate_left
    · intro w' hSw; (try dsimp only at hSw); go_simp; try with_reducible rfl
    simp only [Act.put, List.setIfInBounds_toArray, List.set_cons_zero, List.set_cons_succ]
    refine wpAnyH_done (by kernel_rfl) ?_ _
    skip
    clear hHeld A7 T7 X7 b7 A4 T4 X4 b4 A3 T3 b3 hneb K9 hx7 hfar
    generalize w7.setCells xb 0 (pcl p) = W9 at *
    have hlk := A9.out.sm.look (by rw [← HN.out]; exact hN8) (k := k) (by rw [← HN.out]; exact hkN)
    rw [HSk.out, show b01 false = 0 from rfl] at hlk
    have cs := A9.out.cS
    have cl := A9.out.lf.c0
    have fr := A9.out.lf.free 0
    have hlf := A0.out.lf.lt
    have hsm := A0.out.sm.lt
    have A10 := Lib.hid (A9.out.setL0 HGO.out 0)
    have cs1 := A10.out.cS
    obtain ⟨W11, hup, hA11, hK11⟩ := A10.out.put HGO.out (by rw [← HN.out]; exact hN8) (k := k) (by rw [← HN.out]; exact hkN) true
    rw [show b01 true = 1 from rfl] at hup
    have A11 := Lib.hid hA11
    have b10 := b9.setCell (p := ⟨G.lf, 0, none⟩) HGO.out.lf (.int .i64 0)
    have b11 := b10.trans (hK11.below A10.out.lo (by simp; exact HGO.out.sm))
    have X10 := X9.out.setOther (k := G.lf) (by omega) 0 (.int .i64 0)
    have X11 : Hid (PB xb p W11) := (hK11.block _ X10.lt (by simp; omega)).trans X10
    have T10 := T9.out.setOther (k := G.lf) (by omega) 0 (.int .i64 0)
    have T11 : Hid (PB W.heap.size p W11) := (hK11.block _ T10.lt (by simp; omega)).trans T10
    have cl1 := A11.out.lf.c0
    have cs2 := A11.out.cS
    clear A0 HIn HV HX HXr HSx hlo fq hA11 hK11 b9 b10 X9 X10 T9 T10 A10
    have fr1 := A11.out.lf.free 0
    have A12 := Lib.hid (A11.out.setL0 HGO.out 0)
    have b12 := b11.setCell (p := ⟨G.lf, 0, none⟩) HGO.out.lf (.int .i64 0)
    have X12 := Lib.hid (X11.out.setOther (k := G.lf) (by omega) 0 (.int .i64 0))
    have T12 := Lib.hid (T11.out.setOther (k := G.lf) (by omega) 0 (.int .i64 0))
    have cal := A12.out.cAl HN.out
    go_wp2_with fail
    clear cl cs cs1 cs2 cl1 fr fr1 cal hup hlk b11 X11 T11 A11 A9
    generalize W11.setCell ⟨G.lf, 0, none⟩ (.int .i64 0) = W12 at *
    go_loopw [60] (fun i V => ∃ m : Nat, m ≤ N ∧ i = .int .i64 m ∧ AS G p q R1 n1 R2 n2 base ((min m n1 : Nat) : Int) (lft n2 J2) (fun i => if i < m ∧ i < n1 then false else if i = k then true else sn n1 J1 J2 i) (fun _ => false) J2 V A' ∧ PB xb p V ∧ PB W.heap.size p V ∧ Below base W V) (fun i _ => N - (intOf i).toNat)
    case atStart =>
      refine ⟨0, Nat.zero_le _, rfl, ?_, X12.out, T12.out, b12⟩
      rw [Nat.zero_min]
      exact A12.out.congrS (fun i _ => by rw [if_neg (by omega)])
    case round =>
      obtain ⟨m, hm, rfl, hA, hX, hT, hb⟩ := hrel
      clear A12 X12 T12 b12
      have AA := Lib.hid hA
      have XX := Lib.hid hX
      have TT := Lib.hid hT
      have ca := AA.out.cA
      clear hA hX hT
      by_cases hlt : m < N
      · by_cases hin : m < n1
        · have e0 : min m n1 = m := by omega
          rw [e0] at AA
          have cl := AA.out.lf.c0
          have fr := AA.out.lf.free 0
          have B1 := Lib.hid (AA.out.setL0 HGO.out ((m : Int) + 1))
          have cs1 := B1.out.cS
          obtain ⟨V2, hup, hA2, hK2⟩ := B1.out.put HGO.out (by rw [← HN.out]; exact hN8) (k := m) (by rw [← HN.out]; exact hlt) false
          rw [show b01 false = 0 from rfl] at hup
          have A2 := Lib.hid hA2
          have b1 := hb.setCell (p := ⟨G.lf, 0, none⟩) HGO.out.lf (.int .i64 ((m : Int) + 1))
          have b2 := b1.trans (hK2.below B1.out.lo (by simp; exact HGO.out.sm))
          have X1 := XX.out.setOther (k := G.lf) (by omega) 0 (.int .i64 ((m : Int) + 1))
          have X2 : Hid (PB xb p V2) := (hK2.block _ X1.lt (by simp; omega)).trans X1
          have T1 := TT.out.setOther (k := G.lf) (by omega) 0 (.int .i64 ((m : Int) + 1))
          have T2 : Hid (PB W.heap.size p V2) := (hK2.block _ T1.lt (by simp; omega)).trans T1
          clear hA2 hK2 b1 X1 T1 B1 AA XX TT hb
          have hin' : ¬ ((n1 : Int) ≤ (m : Int)) := by omega
          have hlt' : (m : Int) < (N : Int) := by omega
          go_wp2_with fail
          go_roundw
          case rel =>
            refine ⟨m + 1, by omega, by go_num, ?_, X2.out, T2.out, b2⟩
            rw [show min (m + 1) n1 = m + 1 from by omega]
            have hfin := A2.out.congrS (S' := fun i => if i < m + 1 ∧ i < n1 then false else if i = k then true else sn n1 J1 J2 i) (fun i _ => ?_)
            · exact_mod_cast hfin
            · by_cases hi : i = m
              · rw [if_pos (by omega), if_pos hi]
              · rw [if_neg hi]
                by_cases h1 : i < m ∧ i < n1
                · rw [if_pos h1, if_pos (by omega)]
                · rw [if_neg h1, if_neg (by omega)]
          case measure => simp [intOf]; omega
        · have hin' : (n1 : Int) ≤ (m : Int) := by omega
          have hlt' : (m : Int) < (N : Int) := by omega
          go_wp2_with fail
          go_roundw
          case rel =>
            refine ⟨m + 1, by omega, by go_num, ?_, XX.out, TT.out, hb⟩
            rw [show min (m + 1) n1 = min m n1 from by omega]
            exact AA.out.congrS (fun i _ => by
              by_cases h1 : i < m ∧ i < n1
              · rw [if_pos h1, if_pos (by omega)]
              · rw [if_neg h1, if_neg (by omega)])
          case measure => simp [intOf]; omega
      · obtain rfl : m = N := by omega
        have hlt' : ¬ ((m : Int) < (m : Int)) := by omega
        go_wp2_with (first | (refine wpList_load_mid rfl 24 _ rfl xb 0 rfl (pcl p) _ XX.out.range HU.out rfl HI.out ?_) | (refine wpList_load_mid rfl 24 _ rfl W.heap.size 0 rfl (pcl p) _ TT.out.range HU.out rfl HI.out ?_))
        go_ret
        first | refine ⟨by simp, ⟨A', ?_⟩, hb⟩ | refine ⟨by simp, A', ?_, hb⟩
        rw [lft_none, show (n1 : Int) = ((min m n1 : Nat) : Int) from by omega]
        exact AA.out.congrS (fun i hi => sn_end0 _ _ Hkj.out Hjn.out (by rw [HN.out]; exact hi))

end Go.Proofs.Ytfnmcnbiahfnfaa
