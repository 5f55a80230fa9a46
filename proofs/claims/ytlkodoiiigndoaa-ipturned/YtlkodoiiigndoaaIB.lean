/-
  The walk of IpBack.
-/
import Derived.Test.YtlkodoiiigndoaaIS
namespace Go.Proofs.Ytlkodoiiigndoaa
open Go.RowKit
set_option linter.unusedVariables false
set_option linter.unusedSimpArgs false

abbrev pzl : List Value := [.int .u32 0, .int .u32 0, .int .i64 0, .int .i64 0, .int .i64 0, .bool false, .bool false, .int .i64 0, .string ⟨#[]⟩]

set_option maxHeartbeats 2000000 in
theorem back_oo (p : Pk) (s : ByteArray) (f : Fits p) (hs : s.size ≤ 140737488351232) (hr : rerr s = 0) (hk : chk p = 0) (w : World) :
    Calls Try.prog 5 #[pv p, .string s] w fun e w' => e = .returned (.bool true) ∧ Below w.heap.size w w' := by
  have H8 : Hid (∀ w', Calls Try.prog 8 #[pv p] w' fun e w'' => e = .returned (.tuple #[.string (wtd p), .int .i64 (chk p)]) ∧ Below w'.heap.size w' w'') := fun w' => write_any p f w'
  have H12 : Hid (∀ w', Calls Try.prog 12 #[.string s] w' fun e w'' => e = .returned (.tuple #[pv (rt s), .int .i64 (rerr s)]) ∧ Below w'.heap.size w' w'') := fun w' => read_any s (by omega) w'
  have b0 : Below w.heap.size w (w.alloc (.cells (pc p) 24)) := (Below.refl _ _).alloc (Nat.le_refl _) _
  have P0 := Lib.hid (PB.new w p)
  have HU := Lib.hid Try.underlying24
  have HI : Hid ((Try.prog.info? 24).map (·.size) = some (pcl p).length) := info24
  have HQ : Hid (∀ w', Calls Try.prog 8 #[pv (rt s)] w' fun e w'' => e = .returned (.tuple #[.string s, .int .i64 0]) ∧ Below w'.heap.size w' w'') := fun w' => by
    have e : rt s = rp s := by unfold rt; rw [if_pos hr]
    have hc := (rerr_zero s hr).2.2
    have ff : Fits (rp s) := rp_fits s (by show s.size ≤ _; unfold maxLen; omega)
    have := write_ok (rp s) w' hc ff.src ff.dst
    rw [wr_rp s hr] at this
    rw [e]; exact this
  rw [hr] at H12
  generalize rt s = q at *
  have hw : wtd p = wr p := by unfold wtd; rw [if_pos hk]
  rw [hk, hw] at H8
  have hsz := wr_size p
  have hfill := filled (wr p) (by omega)
  have hb14 := (chk_zero p hk).2
  have HB : Hid (∀ w', Calls Try.prog 12 #[.string (wr p)] w' fun e w'' => e = .returned (.tuple #[pv p, .int .i64 0]) ∧ Below w'.heap.size w' w'') := fun w' => by
    obtain ⟨e1, e2⟩ := rerr_wr p f hk
    have := read_any (wr p) (by omega) w'
    have e3 : rt (wr p) = p := by unfold rt; rw [if_pos e1, e2]
    rwa [e1, e3] at this
  have v1 : IntKind.i64.wrap (20 + (p.body.size : Int)) = 20 + (p.body.size : Int) := wraps_i64 _ (by omega) (by omega)
  have hsz2 : ((wr p).size : Int) = 20 + (p.body.size : Int) := by omega
  clear hw hsz
  generalize wr p = T at *
  go_enter Try.func5, Try.ntmps5
  go_wp2_with (refine wpList_load_mid rfl _ _ rfl _ _ rfl (pcl p) _ P0.out.range HU.out rfl HI.out ?_)
  refine (H8.out _).mono ?_; rintro e w1 ⟨rfl, hb1⟩
  have P1 := Lib.hid (P0.out.keep hb1)
  have b1 := b0.trans (hb1.mono (by simp))
  go_wp2_with fail
  refine (H12.out _).mono ?_; rintro e w2 ⟨rfl, hb2⟩
  have P2 := Lib.hid (P1.out.keep hb2)
  have b2 := b1.trans (hb2.mono b1.size)
  have P3 := Lib.hid (P2.out.alloc (.cells (pc q) 24))
  have b3 := b2.alloc b2.size (.cells (pc q) 24)
  have Q3 := Lib.hid (PB.new w2 q)
  clear hb1 hb2 P0 P1 P2 b0 b1 b2
  go_wp2_with (refine wpList_load_mid rfl _ _ rfl _ _ rfl (pcl q) _ Q3.out.range HU.out rfl info24 ?_)
  refine (HQ.out _).mono ?_; rintro e w4 ⟨rfl, hb4⟩
  have P4 := Lib.hid (P3.out.keep hb4)
  have b4 := b3.trans (hb4.mono b3.size)
  clear hb4 P3 b3 Q3
  go_wp2_with fail
  refine (HB.out _).mono ?_; rintro e w5 ⟨rfl, hb5⟩
  have P5 := Lib.hid ((P4.out.keep hb5).alloc (.cells (pc p) 24))
  have b5 := (b4.trans (hb5.mono b4.size)).alloc (Nat.le_trans b4.size hb5.size) (.cells (pc p) 24)
  have R5 := Lib.hid (PB.new w5 p)
  have x8 : (w5.alloc (.cells (pc p) 24)).cell? ⟨w.heap.size, 8, none⟩ = some (.string p.body) := Joins.cell_of_block P5.out 8
  go_wp2_with (first | (refine wpList_load_guard (by rfl) _ _ rfl _ _ rfl (pcl p) _ R5.out.range HU.out rfl HI.out ?_) | (refine wpList_load_guard (by rfl) _ _ rfl _ _ rfl (pcl p) _ P5.out.range HU.out rfl HI.out ?_))
  go_ret
  exact ⟨rfl, b5⟩

set_option maxHeartbeats 2000000 in
theorem back_ob (p : Pk) (s : ByteArray) (f : Fits p) (hs : s.size ≤ 140737488351232) (hr : rerr s = 0) (hk : chk p ≠ 0) (w : World) :
    Calls Try.prog 5 #[pv p, .string s] w fun e w' => e = .returned (.bool true) ∧ Below w.heap.size w w' := by
  have H8 : Hid (∀ w', Calls Try.prog 8 #[pv p] w' fun e w'' => e = .returned (.tuple #[.string (wtd p), .int .i64 (chk p)]) ∧ Below w'.heap.size w' w'') := fun w' => write_any p f w'
  have H12 : Hid (∀ w', Calls Try.prog 12 #[.string s] w' fun e w'' => e = .returned (.tuple #[pv (rt s), .int .i64 (rerr s)]) ∧ Below w'.heap.size w' w'') := fun w' => read_any s (by omega) w'
  have b0 : Below w.heap.size w (w.alloc (.cells (pc p) 24)) := (Below.refl _ _).alloc (Nat.le_refl _) _
  have P0 := Lib.hid (PB.new w p)
  have HU := Lib.hid Try.underlying24
  have HI : Hid ((Try.prog.info? 24).map (·.size) = some (pcl p).length) := info24
  have HQ : Hid (∀ w', Calls Try.prog 8 #[pv (rt s)] w' fun e w'' => e = .returned (.tuple #[.string s, .int .i64 0]) ∧ Below w'.heap.size w' w'') := fun w' => by
    have e : rt s = rp s := by unfold rt; rw [if_pos hr]
    have hc := (rerr_zero s hr).2.2
    have ff : Fits (rp s) := rp_fits s (by show s.size ≤ _; unfold maxLen; omega)
    have := write_ok (rp s) w' hc ff.src ff.dst
    rw [wr_rp s hr] at this
    rw [e]; exact this
  rw [hr] at H12
  generalize rt s = q at *
  have hw : wtd p = ⟨#[]⟩ := by unfold wtd; rw [if_neg hk]
  rw [hw] at H8
  have H10 : Hid (∀ w', Calls Try.prog 10 #[pv p] w' fun e w'' => e = .returned (.int .i64 (chk p)) ∧ Below w'.heap.size w' w'') := fun w' => pchk_any p w'
  generalize chk p = c at *
  have hne : (c != 0) = true := by simpa using hk
  clear hw
  go_enter Try.func5, Try.ntmps5
  go_wp2_with (refine wpList_load_mid rfl _ _ rfl _ _ rfl (pcl p) _ P0.out.range HU.out rfl HI.out ?_)
  refine (H8.out _).mono ?_; rintro e w1 ⟨rfl, hb1⟩
  have P1 := Lib.hid (P0.out.keep hb1)
  have b1 := b0.trans (hb1.mono (by simp))
  go_wp2_with fail
  refine (H12.out _).mono ?_; rintro e w2 ⟨rfl, hb2⟩
  have P2 := Lib.hid (P1.out.keep hb2)
  have b2 := b1.trans (hb2.mono b1.size)
  have P3 := Lib.hid (P2.out.alloc (.cells (pc q) 24))
  have b3 := b2.alloc b2.size (.cells (pc q) 24)
  have Q3 := Lib.hid (PB.new w2 q)
  clear hb1 hb2 P0 P1 P2 b0 b1 b2
  go_wp2_with (refine wpList_load_mid rfl _ _ rfl _ _ rfl (pcl q) _ Q3.out.range HU.out rfl info24 ?_)
  refine (HQ.out _).mono ?_; rintro e w4 ⟨rfl, hb4⟩
  have P4 := Lib.hid (P3.out.keep hb4)
  have b4 := b3.trans (hb4.mono b3.size)
  clear hb4 P3 b3 Q3
  go_wp2_with (refine wpList_load_guard (by rfl) _ _ rfl _ _ rfl (pcl p) _ P4.out.range HU.out rfl HI.out ?_)
  refine (H10.out _).mono ?_; rintro e w5 ⟨rfl, hb5⟩
  have b5 := b4.trans (hb5.mono b4.size)
  go_wp2
  go_ret
  exact ⟨rfl, b5⟩

set_option maxHeartbeats 2000000 in
theorem back_bo (p : Pk) (s : ByteArray) (f : Fits p) (hs : s.size ≤ 140737488351232) (hr : rerr s ≠ 0) (hk : chk p = 0) (w : World) :
    Calls Try.prog 5 #[pv p, .string s] w fun e w' => e = .returned (.bool true) ∧ Below w.heap.size w w' := by
  have H8 : Hid (∀ w', Calls Try.prog 8 #[pv p] w' fun e w'' => e = .returned (.tuple #[.string (wtd p), .int .i64 (chk p)]) ∧ Below w'.heap.size w' w'') := fun w' => write_any p f w'
  have H12 : Hid (∀ w', Calls Try.prog 12 #[.string s] w' fun e w'' => e = .returned (.tuple #[pv (rt s), .int .i64 (rerr s)]) ∧ Below w'.heap.size w' w'') := fun w' => read_any s (by omega) w'
  have b0 : Below w.heap.size w (w.alloc (.cells (pc p) 24)) := (Below.refl _ _).alloc (Nat.le_refl _) _
  have P0 := Lib.hid (PB.new w p)
  have HU := Lib.hid Try.underlying24
  have HI : Hid ((Try.prog.info? 24).map (·.size) = some (pcl p).length) := info24
  have e : rt s = pz := by unfold rt; rw [if_neg hr]
  rw [e] at H12
  generalize rerr s = E at *
  have hE : (E == 0) = false := by simpa using hr
  have H12' : Hid (∀ w', Calls Try.prog 12 #[.string s] w' fun e w'' => e = .returned (.tuple #[.agg pzc, .int .i64 E]) ∧ Below w'.heap.size w' w'') := H12
  clear H12 e
  have hw : wtd p = wr p := by unfold wtd; rw [if_pos hk]
  rw [hk, hw] at H8
  have hsz := wr_size p
  have hfill := filled (wr p) (by omega)
  have hb14 := (chk_zero p hk).2
  have HB : Hid (∀ w', Calls Try.prog 12 #[.string (wr p)] w' fun e w'' => e = .returned (.tuple #[pv p, .int .i64 0]) ∧ Below w'.heap.size w' w'') := fun w' => by
    obtain ⟨e1, e2⟩ := rerr_wr p f hk
    have := read_any (wr p) (by omega) w'
    have e3 : rt (wr p) = p := by unfold rt; rw [if_pos e1, e2]
    rwa [e1, e3] at this
  have v1 : IntKind.i64.wrap (20 + (p.body.size : Int)) = 20 + (p.body.size : Int) := wraps_i64 _ (by omega) (by omega)
  have hsz2 : ((wr p).size : Int) = 20 + (p.body.size : Int) := by omega
  clear hw hsz
  generalize wr p = T at *
  go_enter Try.func5, Try.ntmps5
  go_wp2_with (refine wpList_load_mid rfl _ _ rfl _ _ rfl (pcl p) _ P0.out.range HU.out rfl HI.out ?_)
  refine (H8.out _).mono ?_; rintro e w1 ⟨rfl, hb1⟩
  have P1 := Lib.hid (P0.out.keep hb1)
  have b1 := b0.trans (hb1.mono (by simp))
  go_wp2_with fail
  refine (H12'.out _).mono ?_; rintro e w2 ⟨rfl, hb2⟩
  have P2 := Lib.hid (P1.out.keep hb2)
  have b2 := b1.trans (hb2.mono b1.size)
  have P3 := Lib.hid (P2.out.alloc (.cells pzc 24))
  have b3 := b2.alloc b2.size (.cells pzc 24)
  have Q3 : Hid ((w2.alloc (.cells pzc 24)).rangeAt w2.heap.size 0 pzl) := (PB.new w2 pz).range
  clear hb1 hb2 P0 P1 P2 b0 b1 b2
  have P4 := P3
  have b4 := b3
  go_wp2_with (refine wpList_load_mid rfl _ _ rfl _ _ rfl pzl _ Q3.out HU.out rfl info24 ?_)
  refine (HB.out _).mono ?_; rintro e w5 ⟨rfl, hb5⟩
  have P5 := Lib.hid ((P4.out.keep hb5).alloc (.cells (pc p) 24))
  have b5 := (b4.trans (hb5.mono b4.size)).alloc (Nat.le_trans b4.size hb5.size) (.cells (pc p) 24)
  have R5 := Lib.hid (PB.new w5 p)
  have x8 : (w5.alloc (.cells (pc p) 24)).cell? ⟨w.heap.size, 8, none⟩ = some (.string p.body) := Joins.cell_of_block P5.out 8
  go_wp2_with (first | (refine wpList_load_guard (by rfl) _ _ rfl _ _ rfl (pcl p) _ R5.out.range HU.out rfl HI.out ?_) | (refine wpList_load_guard (by rfl) _ _ rfl _ _ rfl (pcl p) _ P5.out.range HU.out rfl HI.out ?_))
  go_ret
  exact ⟨rfl, b5⟩

set_option maxHeartbeats 2000000 in
theorem back_bb (p : Pk) (s : ByteArray) (f : Fits p) (hs : s.size ≤ 140737488351232) (hr : rerr s ≠ 0) (hk : chk p ≠ 0) (w : World) :
    Calls Try.prog 5 #[pv p, .string s] w fun e w' => e = .returned (.bool true) ∧ Below w.heap.size w w' := by
  have H8 : Hid (∀ w', Calls Try.prog 8 #[pv p] w' fun e w'' => e = .returned (.tuple #[.string (wtd p), .int .i64 (chk p)]) ∧ Below w'.heap.size w' w'') := fun w' => write_any p f w'
  have H12 : Hid (∀ w', Calls Try.prog 12 #[.string s] w' fun e w'' => e = .returned (.tuple #[pv (rt s), .int .i64 (rerr s)]) ∧ Below w'.heap.size w' w'') := fun w' => read_any s (by omega) w'
  have b0 : Below w.heap.size w (w.alloc (.cells (pc p) 24)) := (Below.refl _ _).alloc (Nat.le_refl _) _
  have P0 := Lib.hid (PB.new w p)
  have HU := Lib.hid Try.underlying24
  have HI : Hid ((Try.prog.info? 24).map (·.size) = some (pcl p).length) := info24
  have e : rt s = pz := by unfold rt; rw [if_neg hr]
  rw [e] at H12
  generalize rerr s = E at *
  have hE : (E == 0) = false := by simpa using hr
  have H12' : Hid (∀ w', Calls Try.prog 12 #[.string s] w' fun e w'' => e = .returned (.tuple #[.agg pzc, .int .i64 E]) ∧ Below w'.heap.size w' w'') := H12
  clear H12 e
  have hw : wtd p = ⟨#[]⟩ := by unfold wtd; rw [if_neg hk]
  rw [hw] at H8
  have H10 : Hid (∀ w', Calls Try.prog 10 #[pv p] w' fun e w'' => e = .returned (.int .i64 (chk p)) ∧ Below w'.heap.size w' w'') := fun w' => pchk_any p w'
  generalize chk p = c at *
  have hne : (c != 0) = true := by simpa using hk
  clear hw
  go_enter Try.func5, Try.ntmps5
  go_wp2_with (refine wpList_load_mid rfl _ _ rfl _ _ rfl (pcl p) _ P0.out.range HU.out rfl HI.out ?_)
  refine (H8.out _).mono ?_; rintro e w1 ⟨rfl, hb1⟩
  have P1 := Lib.hid (P0.out.keep hb1)
  have b1 := b0.trans (hb1.mono (by simp))
  go_wp2_with fail
  refine (H12'.out _).mono ?_; rintro e w2 ⟨rfl, hb2⟩
  have P2 := Lib.hid (P1.out.keep hb2)
  have b2 := b1.trans (hb2.mono b1.size)
  have P3 := Lib.hid (P2.out.alloc (.cells pzc 24))
  have b3 := b2.alloc b2.size (.cells pzc 24)
  have Q3 : Hid ((w2.alloc (.cells pzc 24)).rangeAt w2.heap.size 0 pzl) := (PB.new w2 pz).range
  clear hb1 hb2 P0 P1 P2 b0 b1 b2
  have P4 := P3
  have b4 := b3
  go_wp2_with (first | (refine wpList_load_mid rfl _ _ rfl _ _ rfl pzl _ Q3.out HU.out rfl info24 ?_) | (refine wpList_load_guard (by rfl) _ _ rfl _ _ rfl (pcl p) _ P4.out.range HU.out rfl HI.out ?_))
  refine (H10.out _).mono ?_; rintro e w5 ⟨rfl, hb5⟩
  have b5 := b4.trans (hb5.mono b4.size)
  go_wp2
  go_ret
  exact ⟨rfl, b5⟩

theorem back_law (p : Pk) (s : ByteArray) (f : Fits p) (hs : s.size ≤ 140737488351232) (w : World) :
    Calls Try.prog 5 #[pv p, .string s] w fun e w' => e = .returned (.bool true) ∧ Below w.heap.size w w' := by
  by_cases hr : rerr s = 0 <;> by_cases hk : chk p = 0
  · exact back_oo p s f hs hr hk w
  · exact back_ob p s f hs hr hk w
  · exact back_bo p s f hs hr hk w
  · exact back_bb p s f hs hr hk w
end Go.Proofs.Ytlkodoiiigndoaa
