/-
  The walk of FragSizes.
-/
import Derived.Test.YtfnmcnbiahfnfaaFrm
import Derived.Test.YtfnmcnbiahfnfaaOpen
namespace Go.Proofs.Ytfnmcnbiahfnfaa
open Go.RowKit
set_option linter.unusedVariables false
set_option linter.unusedSimpArgs false

theorem split_zero (w : World) : Calls Try.prog 9 #[.agg pzc, .int .i64 0] w fun e w' => ∃ v, e = .returned (.tuple #[v, .int .i64 1]) ∧ Below w.heap.size w w' := by
  have := split_any pz 0 w
  refine this.mono ?_
  rintro e w' ⟨v, rfl, _, hb⟩
  exact ⟨v, by rw [show sperr pz 0 = 1 from by decide], hb⟩

set_option maxHeartbeats 2000000 in
theorem sizes_bad (p : Pk) (mtu : Int) (w : World) (h : sperr p mtu ≠ 0) :
    Calls Try.prog 5 #[pv p, .int .i64 mtu] w fun e w' => e = .returned (.bool true) ∧ Below w.heap.size w w' := by
  have HS : Hid (∀ w', Calls Try.prog 9 #[pv p, .int .i64 mtu] w' fun e w'' => ∃ v, e = .returned (.tuple #[v, .int .i64 (sperr p mtu)]) ∧ PRow w'' w'.heap.size v [] ∧ Below w'.heap.size w' w'') := fun w' => by
    have := split_any p mtu w'
    rwa [spl_bad h] at this
  have HZ := Lib.hid split_zero
  have b0 : Below w.heap.size w (w.alloc (.cells (pc p) 24)) := (Below.refl _ _).alloc (Nat.le_refl _) _
  have P0 := Lib.hid (PB.new w p)
  have HU := Lib.hid Try.underlying24
  have HI : Hid ((Try.prog.info? 24).map (·.size) = some 9) := info24
  generalize sperr p mtu = E at *
  have hne : (E != 0) = true := by simpa using h
  clear h
  go_enter Try.func5, Try.ntmps5
  go_wp2_with (refine wpList_load_mid rfl _ _ rfl _ _ rfl (pcl p) _ P0.out.range HU.out rfl HI.out ?_)
  refine (HS.out _).mono ?_; rintro e w1 ⟨v, rfl, hR1, hb1⟩
  have b1 := b0.trans (hb1.mono (by simp))
  obtain ⟨o, g, cap, rfl, _⟩ := hR1.form
  go_wp2_with fail
  refine (HZ.out _).mono ?_; rintro e w2 ⟨v2, rfl, hb2⟩
  have b2 := b1.trans (hb2.mono b1.size)
  go_wp2_with fail
  go_ret
  exact ⟨rfl, b2⟩

set_option maxHeartbeats 4000000 in
theorem sizes_ok (p : Pk) (mtu : Int) (w : World) (h : sperr p mtu = 0) :
    Calls Try.prog 5 #[pv p, .int .i64 mtu] w fun e w' => e = .returned (.bool true) ∧ Below w.heap.size w w' := by
  obtain ⟨R, n, F⟩ := frm_of h
  have HS : Hid (∀ w', Calls Try.prog 9 #[pv p, .int .i64 mtu] w' fun e w'' => ∃ v, e = .returned (.tuple #[v, .int .i64 0]) ∧ PRow w'' w'.heap.size v (spl p mtu) ∧ Below w'.heap.size w' w'') := fun w' => by
    have := split_any p mtu w'
    rwa [h] at this
  have HZ := Lib.hid split_zero
  have b0 : Below w.heap.size w (w.alloc (.cells (pc p) 24)) := (Below.refl _ _).alloc (Nat.le_refl _) _
  have P0 := Lib.hid (PB.new w p)
  have HU := Lib.hid Try.underlying24
  have HI : Hid ((Try.prog.info? 24).map (·.size) = some 9) := info24
  have HF := Lib.hid F
  have hlen := F.len
  have hpos := F.pos
  have hle := F.le
  clear F h
  go_enter Try.func5, Try.ntmps5
  go_wp2_with (refine wpList_load_mid rfl _ _ rfl _ _ rfl (pcl p) _ P0.out.range HU.out rfl HI.out ?_)
  refine (HS.out _).mono ?_; rintro e w1 ⟨v, rfl, hR1, hb1⟩
  have b1 := b0.trans (hb1.mono (by simp))
  have P1 := Lib.hid (P0.out.keep hb1)
  obtain ⟨o, g, cap, rfl, hform⟩ := hR1.form
  rw [hlen] at hform
  obtain ⟨rfl, hg1, hg2⟩ := hform hpos
  rw [hlen] at hR1
  rw [hlen]
  go_wp2_with fail
  refine (HZ.out _).mono ?_; rintro e w2 ⟨v2, rfl, hb2⟩
  have b2 := b1.trans (hb2.mono b1.size)
  have P2 := Lib.hid (P1.out.keep hb2)
  have R2 := Lib.hid (hR1.on hb2)
  have hg3 : g < w2.heap.size := Nat.lt_of_lt_of_le hg2 hb2.size
  clear hR1 P0 P1 b0 b1 hb1 hb2 hform
  go_wp2_with fail
  go_loopw [9, 32] (fun a i W => ∃ k : Nat, k ≤ n ∧ i = .int .i64 k ∧ a = .string (p.body.extract 0 (sta p R k)) ∧ Below w2.heap.size w2 W) (fun _ i _ => n - (intOf i).toNat)
  case atStart => exact ⟨0, Nat.zero_le _, rfl, by simp [sta]; rfl, Below.refl _ _⟩
  case round =>
    obtain ⟨k, hk, rfl, rfl, hb⟩ := hrel
    have P := Lib.hid (P2.out.keep hb)
    have hbs := hb.size
    have x8 := P.out.c8
    have hwl := P.out.lt
    by_cases hlt : k < n
    · have R3 := Lib.hid ((R2.out.on hb).range (HF.out.get hlt))
      have q1 := HF.out.pkFits hlt
      have q2 := HF.out.pkOff hlt
      have q3 := HF.out.pkMore hlt
      have q4 := Lib.hid (HF.out.pkCat hlt)
      have q5 := HF.out.pkSize hlt
      have q6 := HF.out.sz
      have PP : Hid (PB w.heap.size ⟨p.src, p.dst, p.proto, p.ttl, p.id, p.dont, false, 0, p.body⟩ wr) := by
        have := P.out
        rwa [show p = ⟨p.src, p.dst, p.proto, p.ttl, p.id, p.dont, false, 0, p.body⟩ from by rw [← HF.out.more, ← HF.out.off]] at this
      obtain ⟨m, o, B, hq⟩ : ∃ m o B, pk p R k = ⟨p.src, p.dst, p.proto, p.ttl, p.id, p.dont, m, o, B⟩ := ⟨_, _, _, rfl⟩
      rw [hq] at R3 q1 q2 q3 q4 q5
      simp only at q1 q2 q3 q5
      have q4 : Hid (p.body.extract 0 (sta p R k) ++ B = p.body.extract 0 (sta p R (k + 1))) := q4
      have HA : ∀ w', (Op.stringOp .add (p.body.extract 0 (sta p R k)) B).run Try.prog w' = .ok (.string (p.body.extract 0 (sta p R (k + 1)))) w' := fun w' => by
        rw [← q4.out]
        exact run_string_add_sum w' _ _ (by rw [ByteArray.size_extract]; omega)
      have q8 : (p.body.extract 0 (sta p R k)).size = sta p R k := by rw [ByteArray.size_extract]; omega
      have q9 : (8 * o != ((p.body.extract 0 (sta p R k)).size : Int)) = false := by rw [q8, q2]; simp
      have q10 : ¬ (mtu < (B.size : Int) + 20) := by omega
      have ho : -1000000 ≤ 8 * o ∧ 8 * o ≤ 1000000 := by omega
      generalize p.body.extract 0 (sta p R k) = A at *
      generalize hA2 : p.body.extract 0 (sta p R (k + 1)) = A2 at *
      have HA2 := Lib.hid hA2
      have hbB : B.size ≤ 4000 := by omega
      clear q4 hq q1 q2 q5 q8 hA2 P
      have N1 : Hid (PB wr.heap.size ⟨p.src, p.dst, p.proto, p.ttl, p.id, p.dont, false, 0, p.body⟩ (wr.alloc (.cells (pc ⟨p.src, p.dst, p.proto, p.ttl, p.id, p.dont, false, 0, p.body⟩) 24))) := PB.new _ _
      have PP1 := Lib.hid (PP.out.alloc (.cells (pc ⟨p.src, p.dst, p.proto, p.ttl, p.id, p.dont, false, 0, p.body⟩) 24))
      have hba := hb.alloc hbs (.cells (pc ⟨p.src, p.dst, p.proto, p.ttl, p.id, p.dont, false, 0, p.body⟩) 24)
      by_cases hm : k + 1 < n
      · have hm1 : m = true := by rw [q3]; simpa using hm
        have hm2 : (k : Int) < (n : Int) - 1 := by omega
        subst hm1
        clear q3 hm
        go_wp2_with (first | (refine wpList_load_mid rfl 24 _ rfl g (k * 9) rfl (pcl ⟨p.src, p.dst, p.proto, p.ttl, p.id, p.dont, true, o, B⟩) _ R3.out HU.out rfl HI.out ?_) | (refine wpList_load_mid rfl 24 _ rfl _ _ rfl (pcl _) _ N1.out.range HU.out rfl HI.out ?_) | (refine wpList_load_mid rfl 24 _ rfl _ _ rfl (pcl _) _ PP1.out.range HU.out rfl HI.out ?_))
        go_roundw
        case rel => exact ⟨k + 1, by omega, by go_num, by rw [HA2.out], hba⟩
        case measure => simp [intOf]; omega
      · have hm1 : m = false := by rw [q3]; simpa using hm
        have hm2 : ¬ ((k : Int) < (n : Int) - 1) := by omega
        subst hm1
        clear q3 hm
        go_wp2_with (first | (refine wpList_load_mid rfl 24 _ rfl g (k * 9) rfl (pcl ⟨p.src, p.dst, p.proto, p.ttl, p.id, p.dont, false, o, B⟩) _ R3.out HU.out rfl HI.out ?_) | (refine wpList_load_mid rfl 24 _ rfl _ _ rfl (pcl _) _ N1.out.range HU.out rfl HI.out ?_) | (refine wpList_load_mid rfl 24 _ rfl _ _ rfl (pcl _) _ PP1.out.range HU.out rfl HI.out ?_))
        go_roundw
        case rel => exact ⟨k + 1, by omega, by go_num, by rw [HA2.out], hba⟩
        case measure => simp [intOf]; omega
    · obtain rfl : k = n := by omega
      have e : p.body.extract 0 (sta p R k) = p.body := by rw [HF.out.last]; simp
      have hpos' : (0 : Int) < (k : Int) := by omega
      rw [e]
      go_wp2_with fail
      go_ret
      exact ⟨rfl, b2.trans (hb.mono b2.size)⟩

theorem sizes_law (p : Pk) (mtu : Int) (_f : Fits p) (_m : -9223372036854775808 ≤ mtu ∧ mtu ≤ 9223372036854775807) (w : World) :
    Calls Try.prog 5 #[pv p, .int .i64 mtu] w fun e w' => e = .returned (.bool true) ∧ Below w.heap.size w w' := by
  by_cases h : sperr p mtu = 0
  · exact sizes_ok p mtu w h
  · exact sizes_bad p mtu w h
end Go.Proofs.Ytfnmcnbiahfnfaa
