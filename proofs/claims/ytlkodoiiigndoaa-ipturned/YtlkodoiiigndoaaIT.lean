/-
  The walk of IpTurned.
-/
import Derived.Test.YtlkodoiiigndoaaIB
namespace Go.Proofs.Ytlkodoiiigndoaa
open Go.RowKit
set_option linter.unusedVariables false
set_option linter.unusedSimpArgs false

set_option maxHeartbeats 2000000 in
theorem turned_bad (p : Pk) (a b : Int) (f : Fits p) (hk : chk p ≠ 0) (w : World) :
    Calls Try.prog 6 #[pv p, .int .i64 a, .int .i64 b] w fun e w' => e = .returned (.bool true) ∧ Below w.heap.size w w' := by
  have H8 : Hid (∀ w', Calls Try.prog 8 #[pv p] w' fun e w'' => e = .returned (.tuple #[.string ⟨#[]⟩, .int .i64 (chk p)]) ∧ Below w'.heap.size w' w'') := fun w' => write_bad p w' hk
  have H0 : Hid (∀ w', Calls Try.prog 12 #[.string ⟨#[]⟩] w' fun e w'' => e = .returned (.tuple #[pv pz, .int .i64 3]) ∧ Below w'.heap.size w' w'') := fun w' => read_short ⟨#[]⟩ w' (by decide)
  have b0 : Below w.heap.size w (w.alloc (.cells (pc p) 24)) := (Below.refl _ _).alloc (Nat.le_refl _) _
  have P0 := Lib.hid (PB.new w p)
  have HU := Lib.hid Try.underlying24
  have HI : Hid ((Try.prog.info? 24).map (·.size) = some (pcl p).length) := info24
  generalize chk p = c at *
  have hne : (c != 0) = true := by simpa using hk
  generalize pz = z at *
  go_enter Try.func6, Try.ntmps6
  go_wp2_with (refine wpList_load_mid rfl _ _ rfl _ _ rfl (pcl p) _ P0.out.range HU.out rfl HI.out ?_)
  refine (H8.out _).mono ?_; rintro e w1 ⟨rfl, hb1⟩
  have b1 := b0.trans (hb1.mono (by simp))
  go_wp2_with fail
  refine (H0.out _).mono ?_; rintro e w2 ⟨rfl, hb2⟩
  have b2 := b1.trans (hb2.mono b1.size)
  have b3 := b2.alloc b2.size (.cells (pc z) 24)
  clear hb1 hb2 b0 b1 b2
  go_wp2
  go_ret
  exact ⟨rfl, b3⟩

theorem hd_prefix (p : Pk) : (wr p).extract 0 20 = (⟨(hd p).toArray⟩ : ByteArray) := by
  rw [wr_prefix p 20 (Nat.le_refl _)]
  apply ByteArray.ext; apply Array.toList_inj.1
  rw [ByteArray.data_append, Array.toList_append, extract_list]
  simp
theorem flip_hd (p : Pk) (i k : Nat) (h : i < (⟨(hd p).toArray⟩ : ByteArray).size) : flip ⟨(hd p).toArray⟩ i k h = (hd p).set i (fb (at20 (hd p) i) k) := by
  unfold flip
  have hl : i < (hd p).length := h
  have e : at20 (hd p) i = (hd p)[i] := by unfold at20; simp [hl]
  rw [e]
  rfl

set_option maxHeartbeats 2000000 in
theorem turned_ok (p : Pk) (a b : Int) (f : Fits p) (ha : -9223372036854775808 ≤ a ∧ a ≤ 9223372036854775807) (hbb : -9223372036854775808 ≤ b ∧ b ≤ 9223372036854775807) (hk : chk p = 0) (w : World) :
    Calls Try.prog 6 #[pv p, .int .i64 a, .int .i64 b] w fun e w' => e = .returned (.bool true) ∧ Below w.heap.size w w' := by
  have hbody := (chk_zero p hk).2
  have hsz := wr_size p
  have hds := hd_size p
  have H8 : Hid (∀ w', Calls Try.prog 8 #[pv p] w' fun e w'' => e = .returned (.tuple #[.string (wr p), .int .i64 0]) ∧ Below w'.heap.size w' w'') := fun w' => write_ok p w' hk f.src f.dst
  have H0 : Hid (∀ w', Calls Try.prog 12 #[.string ⟨#[]⟩] w' fun e w'' => e = .returned (.tuple #[.agg pzc, .int .i64 3]) ∧ Below w'.heap.size w' w'') := fun w' => read_short ⟨#[]⟩ w' (by decide)
  obtain ⟨i, hi⟩ := Int.eq_ofNat_of_zero_le (Int.emod_nonneg a (show ((⟨(hd p).toArray⟩ : ByteArray).size : Int) ≠ 0 by omega))
  obtain ⟨k, hkb⟩ := Int.eq_ofNat_of_zero_le (Int.emod_nonneg b (show (8 : Int) ≠ 0 by omega))
  have hil : i < (⟨(hd p).toArray⟩ : ByteArray).size := by
    have := Int.emod_lt_of_pos a (show (0 : Int) < ((⟨(hd p).toArray⟩ : ByteArray).size : Int) by omega)
    omega
  have hk8 : k < 8 := by omega
  have HT : Hid (∀ w', Calls Try.prog 16 #[.string ⟨(hd p).toArray⟩, .int .i64 a, .int .i64 b] w' fun e w'' => e = .returned (.string ⟨((hd p).set i (fb (at20 (hd p) i) k)).toArray⟩) ∧ Below w'.heap.size w' w'') := fun w' => by
    have := turned_any ⟨(hd p).toArray⟩ a b w' (by omega) (by omega) ha.1 ha.2 hbb.1 hbb.2 i k hi hkb hil
    rwa [flip_hd p i k hil] at this
  have hsl1 : ∀ w', (Instr.slice 9 (.string (wr p)) none (some (.int .i64 20)) none).run Try.prog w' = .ok (.string ⟨(hd p).toArray⟩) w' := fun w' => by
    have := run_slice_string_h (P := Try.prog) w' 9 (wr p) Try.underlying9 .i64 20 (by omega) (by omega)
    rw [← hd_prefix p]
    simpa using this
  have hsl2 : ∀ w', (Instr.slice 9 (.string (wr p)) (some (.int .i64 20)) none none).run Try.prog w' = .ok (.string p.body) w' := fun w' => by
    have := run_slice_string_l (P := Try.prog) w' 9 (wr p) Try.underlying9 .i64 20 (by omega) (by omega)
    have e : (wr p).extract 20 (wr p).size = p.body := ext_cat _ _ (hd_len p)
    rw [← e]
    simpa using this
  have hfl : (⟨((hd p).set i (fb (at20 (hd p) i) k)).toArray⟩ : ByteArray).size = 20 := by
    show ((hd p).set i (fb (at20 (hd p) i) k)).length = 20
    rw [List.length_set, hd_len]
  have hr := rerr_turned p f hk i k (by omega) hk8 p.body
  have hadd : ∀ w', (Op.stringOp .add (⟨((hd p).set i (fb (at20 (hd p) i) k)).toArray⟩ : ByteArray) p.body).run Try.prog w' = .ok (.string ((⟨((hd p).set i (fb (at20 (hd p) i) k)).toArray⟩ : ByteArray) ++ p.body)) w' := fun w' => run_string_add_sum w' _ _ (by omega)
  have H2 : Hid (∀ w', Calls Try.prog 12 #[.string ((⟨((hd p).set i (fb (at20 (hd p) i) k)).toArray⟩ : ByteArray) ++ p.body)] w' fun e w'' => e = .returned (.tuple #[.agg pzc, .int .i64 (rerr ((⟨((hd p).set i (fb (at20 (hd p) i) k)).toArray⟩ : ByteArray) ++ p.body))]) ∧ Below w'.heap.size w' w'') := fun w' => by
    have := read_any ((⟨((hd p).set i (fb (at20 (hd p) i) k)).toArray⟩ : ByteArray) ++ p.body) (by rw [ByteArray.size_append]; omega) w'
    have e : rt ((⟨((hd p).set i (fb (at20 (hd p) i) k)).toArray⟩ : ByteArray) ++ p.body) = pz := by unfold rt; rw [if_neg hr]
    rw [e] at this
    exact this
  have b0 : Below w.heap.size w (w.alloc (.cells (pc p) 24)) := (Below.refl _ _).alloc (Nat.le_refl _) _
  have P0 := Lib.hid (PB.new w p)
  have HU := Lib.hid Try.underlying24
  have HI : Hid ((Try.prog.info? 24).map (·.size) = some (pcl p).length) := info24
  have hge : ¬ ((wr p).size : Int) < 20 := by omega
  generalize rerr ((⟨((hd p).set i (fb (at20 (hd p) i) k)).toArray⟩ : ByteArray) ++ p.body) = E at *
  generalize (⟨((hd p).set i (fb (at20 (hd p) i) k)).toArray⟩ : ByteArray) ++ p.body = Y at *
  generalize (⟨((hd p).set i (fb (at20 (hd p) i) k)).toArray⟩ : ByteArray) = X at *
  generalize (⟨(hd p).toArray⟩ : ByteArray) = HD at *
  generalize wr p = S at *
  have hE : (E != 0) = true := by simpa using hr
  clear hi hkb hil hk8 ha hbb hbody hsz hds hfl hr
  go_enter Try.func6, Try.ntmps6
  go_wp2_with (refine wpList_load_mid rfl _ _ rfl _ _ rfl (pcl p) _ P0.out.range HU.out rfl HI.out ?_)
  refine (H8.out _).mono ?_; rintro e w1 ⟨rfl, hb1⟩
  have b1 := b0.trans (hb1.mono (by simp))
  go_wp2_with fail
  refine (H0.out _).mono ?_; rintro e w2 ⟨rfl, hb2⟩
  have b2 := b1.trans (hb2.mono b1.size)
  have b3 := b2.alloc b2.size (.cells pzc 24)
  clear hb1 hb2 b0 b1 b2
  go_wp2
  refine wp_region_any (by kernel_rfl) ?_
  change wpAny _ _ _ _ _ _ _ (World.drew _)
  refine takeA (i := 0) (d := some 31) (v := ?_) rfl rfl (by kernel_rfl) (by kernel_rfl) (by kernel_rfl) (fun _ _ _ h => h) (Or.inl ⟨by rfl, ?_⟩) ?_
  rotate_left
  · intro w'; go_simp; try with_reducible rfl
  simp only [Act.put, List.setIfInBounds_toArray, List.set_cons_zero, List.set_cons_succ]
  refine takeA (i := 1) (d := some 32) (v := ?_) rfl rfl (by kernel_rfl) (by kernel_rfl) (by kernel_rfl) (fun _ _ _ h => h) (Or.inl ⟨by rfl, ?_⟩) ?_
  rotate_left
  · intro w'; go_simp; try with_reducible rfl
  simp only [Act.put, List.setIfInBounds_toArray, List.set_cons_zero, List.set_cons_succ]
  refine takeA (i := 2) (d := some 33) (v := ?_) rfl rfl (by kernel_rfl) (by kernel_rfl) (by kernel_rfl) (fun _ _ _ h => h) (Or.inl ⟨by rfl, ?_⟩) ?_
  rotate_left
  · intro w'; go_simp; try with_reducible rfl
  simp only [Act.put, List.setIfInBounds_toArray, List.set_cons_zero, List.set_cons_succ]
  refine takeA (i := 3) (d := some 34) (v := ?_) rfl rfl (by kernel_rfl) (by kernel_rfl) (by kernel_rfl) (fun _ _ _ h => h) (Or.inl ⟨by rfl, ?_⟩) ?_
  rotate_left
  · intro w'; go_simp; try with_reducible rfl
  simp only [Act.put, List.setIfInBounds_toArray, List.set_cons_zero, List.set_cons_succ]
  refine takeA (i := 5) (d := some 36) (v := ?_) rfl rfl (by kernel_rfl) (by kernel_rfl) (by kernel_rfl) (fun _ _ _ h => h) (Or.inl ⟨by rfl, ?_⟩) ?_
  rotate_left
  · intro w'; go_simp; try with_reducible rfl
  simp only [Act.put, List.setIfInBounds_toArray, List.set_cons_zero, List.set_cons_succ]
  refine takeA (i := 6) (d := some 37) (v := ?_) rfl rfl (by kernel_rfl) (by kernel_rfl) (by kernel_rfl) (fun _ _ _ h => h) (Or.inl ⟨by rfl, ?_⟩) ?_
  rotate_left
  · intro w'; go_simp; try with_reducible rfl
  simp only [Act.put, List.setIfInBounds_toArray, List.set_cons_zero, List.set_cons_succ]
  refine wpAny_ready (rs := [4, 12]) (by kernel_rfl) (by simp) ?_
  refine AllReady.cons rfl (fun K hK => ?_) (AllReady.cons rfl (fun K hK => ?_) AllReady.nil)
  · go_simp
    refine (HT.out _).mono ?_; rintro e w4 ⟨rfl, hb4⟩
    have b4 := b3.drew.trans (hb4.mono b3.size)
    refine hK _ _ ?_
    clear hK K
    try simp only [Act.put, List.setIfInBounds_toArray, List.set_cons_zero, List.set_cons_succ]
    refine takeA (i := 7) (d := some 38) (v := ?_) rfl rfl (by kernel_rfl) (by kernel_rfl) (by kernel_rfl) (fun _ _ _ h => h) (Or.inl ⟨by rfl, ?_⟩) ?_
    rotate_left
    · intro w'; go_simp; try with_reducible rfl
    simp only [Act.put, List.setIfInBounds_toArray, List.set_cons_zero, List.set_cons_succ]
    refine wpAny_ready (rs := [8, 12]) (by kernel_rfl) (by simp) ?_
    refine AllReady.cons rfl (fun K hK => ?_) (AllReady.cons rfl (fun K hK => ?_) AllReady.nil)
    · go_simp
      refine (H2.out _).mono ?_; rintro e w5 ⟨rfl, hb5⟩
      have b5 := b4.trans (hb5.mono b4.size)
      refine hK _ _ ?_
      clear hK K
      try simp only [Act.put, List.setIfInBounds_toArray, List.set_cons_zero, List.set_cons_succ]
      refine takeA (i := 9) (d := some 30) (v := ?_) rfl rfl (by kernel_rfl) (by kernel_rfl) (by kernel_rfl) (fun _ _ _ h => h) (Or.inl ⟨by rfl, ?_⟩) ?_
      rotate_left
      · intro w'; go_simp; try with_reducible rfl
      simp only [Act.put, List.setIfInBounds_toArray, List.set_cons_zero, List.set_cons_succ]
      refine takeA (i := 10) (d := some 40) (v := ?_) rfl rfl (by kernel_rfl) (by kernel_rfl) (by kernel_rfl) (fun _ _ _ h => h) (Or.inl ⟨by rfl, ?_⟩) ?_
      rotate_left
      · intro w'; go_simp; try with_reducible rfl
      simp only [Act.put, List.setIfInBounds_toArray, List.set_cons_zero, List.set_cons_succ]
      refine takeA (i := 11) (d := some 41) (v := ?_) rfl rfl (by kernel_rfl) (by kernel_rfl) (by kernel_rfl) (fun _ _ _ h => h) (Or.inl ⟨by rfl, ?_⟩) ?_
      rotate_left
      · intro w'; go_simp; try with_reducible rfl
      simp only [Act.put, List.setIfInBounds_toArray, List.set_cons_zero, List.set_cons_succ]
      refine wpAny_ready (rs := [12]) (by kernel_rfl) (by simp) ?_
      refine AllReady.cons rfl (fun K hK => ?_) AllReady.nil
      go_simp
      refine hK _ _ ?_
      clear hK K
      try simp only [Act.put, List.setIfInBounds_toArray, List.set_cons_zero, List.set_cons_succ]
      have b6 := b5.alloc b5.size (.cells pzc 24)
      have P6 := Lib.hid (PB.new w5 pz)
      have TH : Hid ((w5.alloc (.cells pzc 24)).there w5.heap.size 0 9) := P6.out.there
      refine wpAny_ready (rs := [13]) (by kernel_rfl) (by simp) ?_
      refine AllReady.cons rfl (fun K hK => ?_) AllReady.nil
      rw [if_pos (by rfl)]
      refine wp_store_mid _ _ _ rfl _ _ pzc rfl rfl TH.out info24 (pc_one pz) ?_
      refine hK _ _ ?_
      clear hK K
      try simp only [Act.put, List.setIfInBounds_toArray, List.set_cons_zero, List.set_cons_succ]
      refine takeA (i := 14) (d := some 8) (v := ?_) rfl rfl (by kernel_rfl) (by kernel_rfl) (by kernel_rfl) (fun _ _ _ h => h) (Or.inl ⟨by rfl, ?_⟩) ?_
      rotate_left
      · intro w'; go_simp; try with_reducible rfl
      simp only [Act.put, List.setIfInBounds_toArray, List.set_cons_zero, List.set_cons_succ]
      refine wpAny_done (by kernel_rfl) ?_ _
      have Q6 : Hid (((w5.alloc (.cells pzc 24)).setCells w5.heap.size 0 pzl).rangeAt w5.heap.size 0 pzl) := World.rangeAt_setCells_same _ _ _ _ TH.out
      go_wp2_with (refine wpList_load_guard (by rfl) _ _ rfl _ _ rfl pzl _ Q6.out HU.out rfl info24 ?_)
      go_ret
      exact ⟨rfl, below_setCells b6 b5.size _ _⟩
    · go_simp
      refine hK _ _ ?_
      clear hK K
      try simp only [Act.put, List.setIfInBounds_toArray, List.set_cons_zero, List.set_cons_succ]
      have b4a := b4.alloc b4.size (.cells pzc 24)
      have P4 := Lib.hid (PB.new w4 pz)
      refine wpAny_ready (rs := [8]) (by kernel_rfl) (by simp) ?_
      refine AllReady.cons rfl (fun K hK => ?_) AllReady.nil
      go_simp
      refine (H2.out _).mono ?_
      rintro e w5 ⟨rfl, hb5⟩
      have b5 := b4a.trans (hb5.mono b4a.size)
      have P5 := Lib.hid (PB.keep (p := pz) P4.out hb5)
      have TH : Hid (w5.there w4.heap.size 0 9) := P5.out.there
      refine hK _ _ ?_
      clear hK K
      try simp only [Act.put, List.setIfInBounds_toArray, List.set_cons_zero, List.set_cons_succ]
      refine takeA (i := 9) (d := some 30) (v := ?_) rfl rfl (by kernel_rfl) (by kernel_rfl) (by kernel_rfl) (fun _ _ _ h => h) (Or.inl ⟨by rfl, ?_⟩) ?_
      rotate_left
      · intro w'; go_simp; try with_reducible rfl
      simp only [Act.put, List.setIfInBounds_toArray, List.set_cons_zero, List.set_cons_succ]
      refine takeA (i := 10) (d := some 40) (v := ?_) rfl rfl (by kernel_rfl) (by kernel_rfl) (by kernel_rfl) (fun _ _ _ h => h) (Or.inl ⟨by rfl, ?_⟩) ?_
      rotate_left
      · intro w'; go_simp; try with_reducible rfl
      simp only [Act.put, List.setIfInBounds_toArray, List.set_cons_zero, List.set_cons_succ]
      refine takeA (i := 11) (d := some 41) (v := ?_) rfl rfl (by kernel_rfl) (by kernel_rfl) (by kernel_rfl) (fun _ _ _ h => h) (Or.inl ⟨by rfl, ?_⟩) ?_
      rotate_left
      · intro w'; go_simp; try with_reducible rfl
      simp only [Act.put, List.setIfInBounds_toArray, List.set_cons_zero, List.set_cons_succ]
      refine wpAny_ready (rs := [13]) (by kernel_rfl) (by simp) ?_
      refine AllReady.cons rfl (fun K hK => ?_) AllReady.nil
      rw [if_pos (by rfl)]
      refine wp_store_mid _ _ _ rfl _ _ pzc rfl rfl TH.out info24 (pc_one pz) ?_
      refine hK _ _ ?_
      clear hK K
      try simp only [Act.put, List.setIfInBounds_toArray, List.set_cons_zero, List.set_cons_succ]
      refine takeA (i := 14) (d := some 8) (v := ?_) rfl rfl (by kernel_rfl) (by kernel_rfl) (by kernel_rfl) (fun _ _ _ h => h) (Or.inl ⟨by rfl, ?_⟩) ?_
      rotate_left
      · intro w'; go_simp; try with_reducible rfl
      simp only [Act.put, List.setIfInBounds_toArray, List.set_cons_zero, List.set_cons_succ]
      refine wpAny_done (by kernel_rfl) ?_ _
      have Q6 : Hid ((w5.setCells w4.heap.size 0 pzl).rangeAt w4.heap.size 0 pzl) := World.rangeAt_setCells_same _ _ _ _ TH.out
      go_wp2_with (refine wpList_load_guard (by rfl) _ _ rfl _ _ rfl pzl _ Q6.out HU.out rfl info24 ?_)
      go_ret
      exact ⟨rfl, below_setCells b5 b4.size _ _⟩
  · go_simp
    refine hK _ _ ?_
    clear hK K
    try simp only [Act.put, List.setIfInBounds_toArray, List.set_cons_zero, List.set_cons_succ]
    have e3 : (w2.alloc (.cells pzc 24)).heap.size = w2.heap.size + 1 := by simp
    have P3 : Hid (PB (w2.heap.size + 1) pz ((w2.alloc (.cells pzc 24)).drew.alloc (.cells pzc 24))) := by
      have hn := PB.new (w2.alloc (.cells pzc 24)).drew pz
      rwa [show (w2.alloc (.cells pzc 24)).drew.heap.size = w2.heap.size + 1 from e3] at hn
    have b3a := b3.drew.alloc b3.size (.cells pzc 24)
    refine wpAny_ready (rs := [4]) (by kernel_rfl) (by simp) ?_
    refine AllReady.cons rfl (fun K hK => ?_) AllReady.nil
    go_simp
    refine (HT.out _).mono ?_
    rintro e w4 ⟨rfl, hb4⟩
    have b4 := b3a.trans (hb4.mono b3a.size)
    have P4 := Lib.hid (PB.keep (p := pz) P3.out hb4)
    refine hK _ _ ?_
    clear hK K
    try simp only [Act.put, List.setIfInBounds_toArray, List.set_cons_zero, List.set_cons_succ]
    refine takeA (i := 7) (d := some 38) (v := ?_) rfl rfl (by kernel_rfl) (by kernel_rfl) (by kernel_rfl) (fun _ _ _ h => h) (Or.inl ⟨by rfl, ?_⟩) ?_
    rotate_left
    · intro w'; go_simp; try with_reducible rfl
    simp only [Act.put, List.setIfInBounds_toArray, List.set_cons_zero, List.set_cons_succ]
    refine wpAny_ready (rs := [8]) (by kernel_rfl) (by simp) ?_
    refine AllReady.cons rfl (fun K hK => ?_) AllReady.nil
    go_simp
    refine (H2.out _).mono ?_
    rintro e w5 ⟨rfl, hb5⟩
    have b5 := b4.trans (hb5.mono b4.size)
    have P5 := Lib.hid (PB.keep (p := pz) P4.out hb5)
    have TH : Hid (w5.there (w2.heap.size + 1) 0 9) := P5.out.there
    refine hK _ _ ?_
    clear hK K
    try simp only [Act.put, List.setIfInBounds_toArray, List.set_cons_zero, List.set_cons_succ]
    refine takeA (i := 9) (d := some 30) (v := ?_) rfl rfl (by kernel_rfl) (by kernel_rfl) (by kernel_rfl) (fun _ _ _ h => h) (Or.inl ⟨by rfl, ?_⟩) ?_
    rotate_left
    · intro w'; go_simp; try with_reducible rfl
    simp only [Act.put, List.setIfInBounds_toArray, List.set_cons_zero, List.set_cons_succ]
    refine takeA (i := 10) (d := some 40) (v := ?_) rfl rfl (by kernel_rfl) (by kernel_rfl) (by kernel_rfl) (fun _ _ _ h => h) (Or.inl ⟨by rfl, ?_⟩) ?_
    rotate_left
    · intro w'; go_simp; try with_reducible rfl
    simp only [Act.put, List.setIfInBounds_toArray, List.set_cons_zero, List.set_cons_succ]
    refine takeA (i := 11) (d := some 41) (v := ?_) rfl rfl (by kernel_rfl) (by kernel_rfl) (by kernel_rfl) (fun _ _ _ h => h) (Or.inl ⟨by rfl, ?_⟩) ?_
    rotate_left
    · intro w'; go_simp; try with_reducible rfl
    simp only [Act.put, List.setIfInBounds_toArray, List.set_cons_zero, List.set_cons_succ]
    refine wpAny_ready (rs := [13]) (by kernel_rfl) (by simp) ?_
    refine AllReady.cons rfl (fun K hK => ?_) AllReady.nil
    rw [if_pos (by rfl)]
    refine wp_store_mid _ _ _ rfl _ _ pzc rfl rfl TH.out info24 (pc_one pz) ?_
    refine hK _ _ ?_
    clear hK K
    try simp only [Act.put, List.setIfInBounds_toArray, List.set_cons_zero, List.set_cons_succ]
    refine takeA (i := 14) (d := some 8) (v := ?_) rfl rfl (by kernel_rfl) (by kernel_rfl) (by kernel_rfl) (fun _ _ _ h => h) (Or.inl ⟨by rfl, ?_⟩) ?_
    rotate_left
    · intro w'; go_simp; try with_reducible rfl
    simp only [Act.put, List.setIfInBounds_toArray, List.set_cons_zero, List.set_cons_succ]
    refine wpAny_done (by kernel_rfl) ?_ _
    have Q6 : Hid ((w5.setCells (w2.heap.size + 1) 0 pzl).rangeAt (w2.heap.size + 1) 0 pzl) := World.rangeAt_setCells_same _ _ _ _ TH.out
    go_wp2_with (refine wpList_load_guard (by rfl) _ _ rfl _ _ rfl pzl _ Q6.out HU.out rfl info24 ?_)
    go_ret
    exact ⟨rfl, below_setCells b5 (by have := b3.size; rw [e3] at this; exact this) _ _⟩

theorem turned_law (p : Pk) (a b : Int) (f : Fits p) (ha : -9223372036854775808 ≤ a ∧ a ≤ 9223372036854775807) (hb : -9223372036854775808 ≤ b ∧ b ≤ 9223372036854775807) (w : World) :
    Calls Try.prog 6 #[pv p, .int .i64 a, .int .i64 b] w fun e w' => e = .returned (.bool true) ∧ Below w.heap.size w w' := by
  by_cases hk : chk p = 0
  · exact turned_ok p a b f ha hb hk w
  · exact turned_bad p a b f hk w
end Go.Proofs.Ytlkodoiiigndoaa
