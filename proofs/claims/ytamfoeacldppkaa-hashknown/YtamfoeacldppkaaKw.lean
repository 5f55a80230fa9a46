/-
  The walk of HashKnown.
-/
import Derived.Test.YtamfoeacldppkaaKn
namespace Go.Proofs.Ytamfoeacldppkaa
open Go.RowKit
set_option linter.unusedVariables false
set_option linter.unusedSimpArgs false

set_option maxHeartbeats 4000000 in
theorem known_walk (k0 k1 : Int) (e f : En) (w : World) (b0 : 0 ≤ k0 ∧ k0 ≤ 18446744073709551615) (b1 : 0 ≤ k1 ∧ k1 ≤ 18446744073709551615) (he : EFits e) (hf : EFits f) :
    Calls Try.prog 5 #[.int .u64 k0, .int .u64 k1, ev e, ev f] w fun x w' => x = .returned (.bool true) ∧ Below w.heap.size w w' := by
  clear b0 b1
  obtain ⟨i0, hi0, hz0, hz1, hz2⟩ := info_parts info5
  have HK : Hid (∀ W, Calls Try.prog 6 #[.int .u64 506097522914230528, .int .u64 1084818905618843912, .string (upT 15)] W fun x w' => x = .returned (.int .u64 11613035633349379557) ∧ Below W.heap.size W w') := fun W => by
    have := sip_any 506097522914230528 1084818905618843912 (upT 15) (by rw [upT_size]; decide) W
    rwa [known_sip] at this
  have HP : Hid (∀ w', Calls Try.prog 8 #[.int .u64 k0, .int .u64 k1, ev e, ev f] w' fun x w'' => x = .returned (.int .u64 (pairv k0 k1 e f)) ∧ Below w'.heap.size w' w'') := fun w' => pair_any k0 k1 e f he hf w'
  have HS : Hid (∀ w', Calls Try.prog 6 #[.int .u64 k0, .int .u64 k1, .string ⟨(eb e ++ eb f).toArray⟩] w' fun x w'' => x = .returned (.int .u64 (pairv k0 k1 e f)) ∧ Below w'.heap.size w' w'') := fun w' => sip_any k0 k1 ⟨(eb e ++ eb f).toArray⟩ (by show (eb e ++ eb f).toArray.size ≤ _; simp [eb]) w'
  have N0 := Lib.hid (E2.new e f w)
  have L0 := Lib.hid (e2_below e f w)
  have HU := Lib.hid Try.underlying27
  have S6 := Lib.hid (six e he)
  have T6 := Lib.hid (six f hf)
  generalize pairv k0 k1 e f = r at *
  unfold ev
  go_enter Try.func5, Try.ntmps5
  go_wp2_with fail
  generalize ((w.alloc (.cells #[.int .u32 (e.a : Int), .int .i64 e.p] 27)).alloc (.cells #[.int .u32 (f.a : Int), .int .i64 f.p] 27)) = W0 at *
  go_loopw [9, 14] (fun s i W => ∃ k : Nat, k ≤ 15 ∧ i = .int .i64 k ∧ s = .string (upT k) ∧ E2 w.heap.size (w.heap.size + 1) e f W ∧ Below w.heap.size w W) (fun _ i _ => 15 - (intOf i).toNat)
  case atStart => exact ⟨0, by omega, rfl, rfl, N0.out, L0.out⟩
  case round =>
    obtain ⟨k, hk, rfl, rfl, hN, hL⟩ := hrel
    have N1 := Lib.hid hN
    have L1 := Lib.hid hL
    clear hN hL N0 L0
    by_cases hlt : k < 15
    · have hz := upT_size k
      have HX := Lib.hid (upT_next k)
      have hc : ∀ W : World, (convert 30 9 (.slice (some ⟨W.heap.size, 0, none⟩) 1 1)).run Try.prog (W.alloc (.cells #[.int .u8 (k : Int)] 5)) = .ok (.string (one k)) (W.alloc (.cells #[.int .u8 (k : Int)] 5)) := fun W => by
        refine conv_new W [UInt8.ofNat k] 1 _ ?_
        simp only [List.map_cons, List.map_nil, UInt8.toNat_ofNat']
        rw [show ((k : Int)) = ((k % 2 ^ 8 : Nat) : Int) from by omega]
      have ho := one_sz k
      generalize one k = O at *
      generalize upT k = T at *
      go_wp2_with fail
      go_roundw
      case rel => exact ⟨k + 1, by omega, by go_num, by rw [HX.out], N1.out.keep ((Below.refl _ _).alloc (Nat.le_refl _) _), L1.out.alloc L1.out.size _⟩
      case measure => simp [intOf]; omega
    · have e15 : k = 15 := by omega
      subst e15
      generalize upT 15 = T at *
      go_wp2_with fail
      refine (HK.out _).mono ?_; rintro x w1 ⟨rfl, hb1⟩
      have N2 := Lib.hid (N1.out.keep hb1)
      have L2 := Lib.hid (L1.out.trans (hb1.mono L1.out.size))
      clear hb1 N1 L1 HK
      go_wp2_with (first | (refine wpList_load_mid rfl 27 (.tmp 6) rfl _ _ rfl [.int .u32 (e.a : Int), .int .i64 e.p] _ (EB.range N2.out.a) HU.out rfl infoEnd ?_) | (refine wpList_load_mid rfl 27 (.tmp 7) rfl _ _ rfl [.int .u32 (f.a : Int), .int .i64 f.p] _ (EB.range N2.out.b) HU.out rfl infoEnd ?_))
      have A2 := Lib.hid (AB.new e f w1)
      have N3 := Lib.hid (N2.out.keep ((Below.refl _ _).alloc (Nat.le_refl _) (.cells #[.int .u32 (e.a : Int), .int .i64 e.p, .int .u32 (f.a : Int), .int .i64 f.p] 27)))
      have L3 := Lib.hid (L2.out.alloc L2.out.size (.cells #[.int .u32 (e.a : Int), .int .i64 e.p, .int .u32 (f.a : Int), .int .i64 f.p] 27))
      have hs3 : (w1.alloc (.cells #[.int .u32 (e.a : Int), .int .i64 e.p, .int .u32 (f.a : Int), .int .i64 f.p] 27)).heap.size = w1.heap.size + 1 := by simp
      have hle : w.heap.size + 2 ≤ w1.heap.size := by have := N2.out.b.lt; omega
      clear N2 L2 hk hlt
      generalize hR : w1.heap.size = R at *
      generalize w1.alloc (.cells #[.int .u32 (e.a : Int), .int .i64 e.p, .int .u32 (f.a : Int), .int .i64 f.p] 27) = W3 at *
      go_loopw [11, 31] (fun v i W => ∃ k : Nat, k ≤ 2 ∧ i = .int .i64 k ∧ W.ownsRow (R + 1) 5 1 v (6 * k) (vals ((eb e ++ eb f).take (6 * k))) ∧ E2 w.heap.size (w.heap.size + 1) e f W ∧ AB R e f W ∧ Below w.heap.size w W) (fun _ i _ => 2 - (intOf i).toNat)
      case atStart => exact ⟨0, by omega, rfl, World.ownsRow_nil _ _ _ _, N3.out, A2.out, L3.out⟩
      case round =>
        obtain ⟨k, hk, rfl, hO, hN, hA, hL⟩ := hrel
        have O3 := Lib.hid hO
        have N4 := Lib.hid hN
        have A3 := Lib.hid hA
        have L4 := Lib.hid hL
        have hRlt := hA.lt
        have hwle := hL.size
        clear hO hN hA hL A2 N3 L3 hs3
        rcases (show k = 0 ∨ k = 1 ∨ k = 2 from by omega) with rfl | rfl | rfl
        · have B4 : Hid (EB wr.heap.size e (wr.alloc (.cells #[.int .u32 (e.a : Int), .int .i64 e.p] 27))) := EB.new e wr
          have y0 := B4.out.c0
          have y1 := B4.out.c1
          have ha := he.a
          obtain ⟨p0, p1⟩ := he.p
          have hb4 : Below wr.heap.size wr ((wr.alloc (.cells #[.int .u32 (e.a : Int), .int .i64 e.p] 27)).alloc (Obj.cells #[.int .u8 ((e.a : Int) / 16777216), .int .u8 ((e.a : Int) / 65536 % 256), .int .u8 ((e.a : Int) / 256 % 256), .int .u8 ((e.a : Int) % 256), .int .u8 (e.p / 256 % 256), .int .u8 (e.p % 256)] 5)) := ((Below.refl _ _).alloc (Nat.le_refl _) _).alloc (by simp) _
          have O4 := Lib.hid (row_keep O3.out hb4)
          have olt := World.ownsRow.lt O3.out
          have HB4 := Lib.hid hb4
          clear hb4 B4
          go_wp2_with (first | (refine wpList_load_mid rfl 27 (.tmp 33) rfl R 0 rfl [.int .u32 (e.a : Int), .int .i64 e.p] _ (AB.r0 A3.out) HU.out rfl infoEnd ?_) | (refine wpList_store_last rfl 27 _ _ rfl wr _ #[.int .u32 (e.a : Int), .int .i64 e.p] rfl rfl rfl infoEnd rfl rfl ?_) | (at_builtin; refine wpList_append_lies _ rfl _ _ _ rfl (R + 1) 5 i0 _ 1 1 Try.underlying30 hi0 hz0 hz1 hz2 rfl (by omega) u11 0 (vals ((eb e ++ eb f).take 0)) rfl O4.out ⟨wr.heap.size + 1, 0, none⟩ 6 6 [.int .u8 ((e.a : Int) / 16777216), .int .u8 ((e.a : Int) / 65536 % 256), .int .u8 ((e.a : Int) / 256 % 256), .int .u8 ((e.a : Int) % 256), .int .u8 (e.p / 256 % 256), .int .u8 (e.p % 256)] rfl rfl (World.news_of_block (cs := #[.int .u8 ((e.a : Int) / 16777216), .int .u8 ((e.a : Int) / 65536 % 256), .int .u8 ((e.a : Int) / 256 % 256), .int .u8 ((e.a : Int) % 256), .int .u8 (e.p / 256 % 256), .int .u8 (e.p % 256)]) (t := 5) (fr := (0, 0)) (by simpa using heap_alloc_new (wr.alloc (.cells #[.int .u32 (e.a : Int), .int .i64 e.p] 27)) (Obj.cells #[.int .u8 ((e.a : Int) / 16777216), .int .u8 ((e.a : Int) / 65536 % 256), .int .u8 ((e.a : Int) / 256 % 256), .int .u8 ((e.a : Int) % 256), .int .u8 (e.p / 256 % 256), .int .u8 (e.p % 256)] 5))) (by simp [Value.oneCell']) (by omega) (by unfold maxLen; omega) (by omega) (by simp; omega) (wr.heap.size + 2) (by simp) ?_; intro g2 cap2 w5 own2 hgrow hat hglt))
          have hb5 : Below w.heap.size w w5 := (L4.out.trans (HB4.out.mono L4.out.size)).grown hgrow (by have := HB4.out.size; omega) (fun j hj => by have := olt j hj; omega)
          have olt' : ∀ j, u11.ownBlock = some j → R + 1 ≤ j ∧ j < ((wr.alloc (.cells #[.int .u32 (e.a : Int), .int .i64 e.p] 27)).alloc (Obj.cells #[.int .u8 ((e.a : Int) / 16777216), .int .u8 ((e.a : Int) / 65536 % 256), .int .u8 ((e.a : Int) / 256 % 256), .int .u8 ((e.a : Int) % 256), .int .u8 (e.p / 256 % 256), .int .u8 (e.p % 256)] 5)).heap.size := fun j hj => by have := olt j hj; have := HB4.out.size; omega
          have N5 := Lib.hid ((N4.out.keep HB4.out).grown (R := R) hgrow olt' (by omega) (by omega))
          have A5 := Lib.hid ((A3.out.keep HB4.out).grown hgrow olt')
          go_roundw
          case rel => exact ⟨1, by omega, by go_num, by rw [S6.out] at own2; exact own2, N5.out, A5.out, hb5⟩
          case measure => simp [intOf]
        · have B4 : Hid (EB wr.heap.size f (wr.alloc (.cells #[.int .u32 (f.a : Int), .int .i64 f.p] 27))) := EB.new f wr
          have y0 := B4.out.c0
          have y1 := B4.out.c1
          have ha := hf.a
          obtain ⟨p0, p1⟩ := hf.p
          have hb4 : Below wr.heap.size wr ((wr.alloc (.cells #[.int .u32 (f.a : Int), .int .i64 f.p] 27)).alloc (Obj.cells #[.int .u8 ((f.a : Int) / 16777216), .int .u8 ((f.a : Int) / 65536 % 256), .int .u8 ((f.a : Int) / 256 % 256), .int .u8 ((f.a : Int) % 256), .int .u8 (f.p / 256 % 256), .int .u8 (f.p % 256)] 5)) := ((Below.refl _ _).alloc (Nat.le_refl _) _).alloc (by simp) _
          have O4 := Lib.hid (row_keep O3.out hb4)
          have olt := World.ownsRow.lt O3.out
          have HB4 := Lib.hid hb4
          clear hb4 B4
          go_wp2_with (first | (refine wpList_load_mid rfl 27 (.tmp 33) rfl R 2 rfl [.int .u32 (f.a : Int), .int .i64 f.p] _ (AB.r2 A3.out) HU.out rfl infoEnd ?_) | (refine wpList_store_last rfl 27 _ _ rfl wr _ #[.int .u32 (f.a : Int), .int .i64 f.p] rfl rfl rfl infoEnd rfl rfl ?_) | (at_builtin; refine wpList_append_lies _ rfl _ _ _ rfl (R + 1) 5 i0 _ 1 1 Try.underlying30 hi0 hz0 hz1 hz2 rfl (by omega) u11 6 (vals ((eb e ++ eb f).take 6)) rfl O4.out ⟨wr.heap.size + 1, 0, none⟩ 6 6 [.int .u8 ((f.a : Int) / 16777216), .int .u8 ((f.a : Int) / 65536 % 256), .int .u8 ((f.a : Int) / 256 % 256), .int .u8 ((f.a : Int) % 256), .int .u8 (f.p / 256 % 256), .int .u8 (f.p % 256)] rfl rfl (World.news_of_block (cs := #[.int .u8 ((f.a : Int) / 16777216), .int .u8 ((f.a : Int) / 65536 % 256), .int .u8 ((f.a : Int) / 256 % 256), .int .u8 ((f.a : Int) % 256), .int .u8 (f.p / 256 % 256), .int .u8 (f.p % 256)]) (t := 5) (fr := (0, 0)) (by simpa using heap_alloc_new (wr.alloc (.cells #[.int .u32 (f.a : Int), .int .i64 f.p] 27)) (Obj.cells #[.int .u8 ((f.a : Int) / 16777216), .int .u8 ((f.a : Int) / 65536 % 256), .int .u8 ((f.a : Int) / 256 % 256), .int .u8 ((f.a : Int) % 256), .int .u8 (f.p / 256 % 256), .int .u8 (f.p % 256)] 5))) (by simp [Value.oneCell']) (by omega) (by unfold maxLen; omega) (by omega) (by simp; omega) (wr.heap.size + 2) (by simp) ?_; intro g2 cap2 w5 own2 hgrow hat hglt))
          have hb5 : Below w.heap.size w w5 := (L4.out.trans (HB4.out.mono L4.out.size)).grown hgrow (by have := HB4.out.size; omega) (fun j hj => by have := olt j hj; omega)
          have olt' : ∀ j, u11.ownBlock = some j → R + 1 ≤ j ∧ j < ((wr.alloc (.cells #[.int .u32 (f.a : Int), .int .i64 f.p] 27)).alloc (Obj.cells #[.int .u8 ((f.a : Int) / 16777216), .int .u8 ((f.a : Int) / 65536 % 256), .int .u8 ((f.a : Int) / 256 % 256), .int .u8 ((f.a : Int) % 256), .int .u8 (f.p / 256 % 256), .int .u8 (f.p % 256)] 5)).heap.size := fun j hj => by have := olt j hj; have := HB4.out.size; omega
          have N5 := Lib.hid ((N4.out.keep HB4.out).grown (R := R) hgrow olt' (by omega) (by omega))
          have A5 := Lib.hid ((A3.out.keep HB4.out).grown hgrow olt')
          go_roundw
          case rel => exact ⟨2, by omega, by go_num, by rw [T6.out] at own2; exact own2, N5.out, A5.out, hb5⟩
          case measure => simp [intOf]
        · obtain ⟨g, cap, rfl, hg0, hg1⟩ := O3.out.form (by omega)
          have Z3 : Hid (K3 w.heap.size (w.heap.size + 1) (R + 1) g cap e f wr) := ⟨N4.out, by have := O3.out; exact this⟩
          clear O3 N4 A3 S6 T6 hi0 hz0 hz1 hz2
          go_upto_region 15 with fail
          try simp only [Act.put, List.setIfInBounds_toArray, List.set_cons_zero, List.set_cons_succ]
          have Z4 : Hid (K3 w.heap.size (w.heap.size + 1) (R + 1) g cap e f wr.drew) := Z3.out.keep ((Below.refl _ _).drew)
          have L5 : Hid (Below w.heap.size w wr.drew) := L4.out.trans (((Below.refl _ _).drew).mono L4.out.size)
          clear Z3 L4
          refine wp_region_held_drew (S := (K3 w.heap.size (w.heap.size + 1) (R + 1) g cap e f)) (by kernel_rfl) Z4.out (fun hHeld => ?_)
          refine takeH (i := 0) (d := some 61) (v := ?_) rfl rfl (by kernel_rfl) (by kernel_rfl) (by kernel_rfl) (fun _ _ _ h => h) (Or.inl ⟨by rfl, ?_⟩) hHeld ?_
          rotate_left
          · intro w' hSw; (try dsimp only at hSw); go_simp; try with_reducible rfl
          simp only [Act.put, List.setIfInBounds_toArray, List.set_cons_zero, List.set_cons_succ]
          refine takeH (i := 1) (d := some 62) (v := ?_) rfl rfl (by kernel_rfl) (by kernel_rfl) (by kernel_rfl) (fun _ _ _ h => h) (Or.inl ⟨by rfl, ?_⟩) hHeld ?_
          rotate_left
          · intro w' hSw; (try dsimp only at hSw); go_simp; try with_reducible rfl
          simp only [Act.put, List.setIfInBounds_toArray, List.set_cons_zero, List.set_cons_succ]
          refine takeH (i := 2) (d := some 63) rfl rfl (by kernel_rfl) (by kernel_rfl) (by kernel_rfl) (fun _ _ _ h => h) (yieldsIf_load_mid (by rfl) _ _ rfl _ _ rfl (ecl e) _ (fun w' hSw => EB.range hSw.t.a) HU.out rfl infoEnd) hHeld ?_
          simp only [Act.put, List.setIfInBounds_toArray, List.set_cons_zero, List.set_cons_succ]
          refine takeH (i := 3) (d := some 64) rfl rfl (by kernel_rfl) (by kernel_rfl) (by kernel_rfl) (fun _ _ _ h => h) (yieldsIf_load_mid (by rfl) _ _ rfl _ _ rfl (ecl f) _ (fun w' hSw => EB.range hSw.t.b) HU.out rfl infoEnd) hHeld ?_
          simp only [Act.put, List.setIfInBounds_toArray, List.set_cons_zero, List.set_cons_succ]
          refine takeH (i := 5) (d := some 66) (v := ?_) rfl rfl (by kernel_rfl) (by kernel_rfl) (by kernel_rfl) (fun _ _ _ h => h) (Or.inl ⟨by rfl, ?_⟩) hHeld ?_
          rotate_left
          · intro w' hSw; (try dsimp only at hSw); go_simp; try with_reducible rfl
          simp only [Act.put, List.setIfInBounds_toArray, List.set_cons_zero, List.set_cons_succ]
          refine takeH (i := 6) (d := some 67) (v := ?_) rfl rfl (by kernel_rfl) (by kernel_rfl) (by kernel_rfl) (fun _ _ _ h => h) (Or.inl ⟨by rfl, ?_⟩) hHeld ?_
          rotate_left
          · intro w' hSw; (try dsimp only at hSw); go_simp; try with_reducible rfl
          simp only [Act.put, List.setIfInBounds_toArray, List.set_cons_zero, List.set_cons_succ]
          refine takeH (i := 7) (d := some 68) (v := ?_) rfl rfl (by kernel_rfl) (by kernel_rfl) (by kernel_rfl) (fun _ _ _ h => h) (Or.inl ⟨by rfl, ?_⟩) hHeld ?_
          rotate_left
          · intro w' hSw; (try dsimp only at hSw); go_simp; try with_reducible rfl
          simp only [Act.put, List.setIfInBounds_toArray, List.set_cons_zero, List.set_cons_succ]
          refine takeH (i := 8) (d := some 69) (v := ?_) rfl rfl (by kernel_rfl) (by kernel_rfl) (by kernel_rfl) (fun _ _ _ h => h) (Or.inl ⟨by rfl, ?_⟩) hHeld ?_
          rotate_left
          · intro w' hSw; (try dsimp only at hSw); have hcv := conv_row hSw.r rfl; go_simp; try with_reducible rfl
          simp only [Act.put, List.setIfInBounds_toArray, List.set_cons_zero, List.set_cons_succ]
          refine wpAnyH_ready (rs := [4]) (by kernel_rfl) (by simp) ?_
          refine AllReadyH.cons rfl (fun K hK => ?_) (AllReadyH.nil)
          go_simp
          refine (HP.out _).mono ?_; rintro x w4 ⟨rfl, hb4⟩
          have Z14 := Lib.hid (Z4.out.keep hb4)
          have L14 := Lib.hid (L5.out.trans (hb4.mono L5.out.size))
          clear hb4
          clear hHeld
          refine hK.out _ _ Z14.out (fun hHeld => ?_)
          clear hK K
          try simp only [Act.put, List.setIfInBounds_toArray, List.set_cons_zero, List.set_cons_succ]
          refine wpAnyH_ready (rs := [9]) (by kernel_rfl) (by simp) ?_
          refine AllReadyH.cons rfl (fun K hK => ?_) (AllReadyH.nil)
          go_simp
          refine (HS.out _).mono ?_; rintro x w9 ⟨rfl, hb9⟩
          have Z19 := Lib.hid (Z14.out.keep hb9)
          have L19 := Lib.hid (L14.out.trans (hb9.mono L14.out.size))
          clear hb9
          clear hHeld
          refine hK.out _ _ Z19.out (fun hHeld => ?_)
          clear hK K
          try simp only [Act.put, List.setIfInBounds_toArray, List.set_cons_zero, List.set_cons_succ]
          refine takeH (i := 10) (d := some 71) (v := ?_) rfl rfl (by kernel_rfl) (by kernel_rfl) (by kernel_rfl) (fun _ _ _ h => h) (Or.inl ⟨by rfl, ?_⟩) hHeld ?_
          rotate_left
          · intro w' hSw; (try dsimp only at hSw); go_simp; try with_reducible rfl
          simp only [Act.put, List.setIfInBounds_toArray, List.set_cons_zero, List.set_cons_succ]
          refine takeH (i := 11) (d := some 8) (v := ?_) rfl rfl (by kernel_rfl) (by kernel_rfl) (by kernel_rfl) (fun _ _ _ h => h) (Or.inl ⟨by rfl, ?_⟩) hHeld ?_
          rotate_left
          · intro w' hSw; (try dsimp only at hSw); go_simp; try with_reducible rfl
          simp only [Act.put, List.setIfInBounds_toArray, List.set_cons_zero, List.set_cons_succ]
          refine wpAnyH_done (by kernel_rfl) ?_ _
          go_wp2_with fail
          go_ret
          exact ⟨rfl, L19.out⟩
end Go.Proofs.Ytamfoeacldppkaa
