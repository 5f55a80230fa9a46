/-
  Contract of Drop (package route).
-/
import Derived.Test.YtchmfbfijglokaaTbl
namespace Go.Proofs.Ytchmfbfijglokaa
open Go.RowKit
set_option linter.unusedVariables false

set_option maxHeartbeats 2000000 in
theorem drop_any (tb : Nat) (bs : List Nat) (L : List Ent) (pa : Nat) (pb : Int) (w : World) (hpa : pa < 4294967296) (h : Tbl w tb bs L) :
    Calls Try.prog 13 #[.pointer (some ⟨tb, 0, none⟩), .agg #[.int .u32 pa, .int .i64 pb]] w fun e w' => e = .returned (.int .i64 (dropC L pa pb)) ∧ ∃ bs', Tbl w' tb bs' (dropL L pa pb) ∧ Kp bs w w' ∧ ∀ k ∈ bs', k ∈ bs ∨ w.heap.size ≤ k := by
  have T := Lib.hid h
  have hgood := h.good
  have HC : Hid (∀ w', Calls Try.prog 22 #[.agg #[.int .u32 pa, .int .i64 pb]] w' fun e w'' => e = .returned (.int .i64 (chk pa pb)) ∧ Below w'.heap.size w' w'') := fun w' => check_any pa pb w' hpa
  have h0 : Below w.heap.size w (w.alloc (.cells #[.int .u32 (pa : Int), .int .i64 pb] 34)) := (Below.refl _ _).alloc (Nat.le_refl _) _
  by_cases hc : chk pa pb = 0
  · rw [hc] at HC
    obtain ⟨h1, h2, h3⟩ := chk_ok hc
    obtain ⟨n, rfl⟩ := Int.eq_ofNat_of_zero_le h1
    have hn : n ≤ 32 := by omega
    unfold wid at h3
    rw [Int.toNat_natCast] at h3
    obtain ⟨t, rfl, hroot, hin, hnd, hf, hL, hlen⟩ := h
    obtain ⟨p0, hp0⟩ := ptr_form t
    rw [List.nodup_cons] at hnd
    have htl := lt_of_block hroot
    have HH : Hid (∀ w', Below w.heap.size w w' → Calls Try.prog 23 #[.pointer (some ⟨tb, 0, none⟩), .agg #[.int .u32 pa, .int .i64 n]] w' fun e w'' => e = .returned (.bool (hasE pa n L)) ∧ Below w'.heap.size w' w'') := fun w' hb => by
      have := thas_any pa n tb t (L.length : Nat) w' hpa hn h3 ((hb.block tb htl).trans hroot) (hin.below hb hin.lt) hf
      rwa [hL] at this
    cases hh : hasE pa n L with
    | false =>
      rw [hh] at HH
      have HA : Hid (dropC L pa n = 7) := by show _ = _; unfold dropC; rw [hc]; simp [hh]
      have HB : Hid (dropL L pa n = L) := by show _ = _; unfold dropL; rw [HA.out]; simp
      clear hh hc hL hp0 hroot hgood
      go_enter Try.func13, Try.ntmps13
      go_wp2_with fail
      refine (HC.out _).mono ?_; rintro e w1 ⟨rfl, hb1⟩
      obtain ⟨b0, b1, _, _⟩ := two_cells (box_keep hb1)
      have h01 := h0.trans (hb1.mono (by simp))
      go_wp2_with fail
      refine (HH.out _ h01).mono ?_; rintro e w2 ⟨rfl, hb2⟩
      go_wp2_with fail
      go_ret
      have h02 := h01.trans (hb2.mono h01.size)
      exact ⟨ret_int HA.out.symm, _, by rw [HB.out]; exact T.out.on h02, Kp.ofBelow h02, fun k hk => Or.inl hk⟩
    | true =>
      rw [hh] at HH
      rw [hp0] at hroot
      have hdl := delE_length hgood.sorted hh
      have HA : Hid (dropC L pa n = 0) := by show _ = _; unfold dropC; rw [hc]; simp [hh]
      have HB : Hid (dropL L pa n = delE pa n L) := by show _ = _; unfold dropL; rw [HA.out, if_pos rfl]; rfl
      have RT := Lib.hid hroot
      have HW : Hid (∀ w', Below w.heap.size w w' → Calls Try.prog 29 #[.pointer p0, .agg #[.int .u32 pa, .int .i64 n], .int .i64 0] w' fun e w'' => ∃ q, e = .returned (.pointer q) ∧
          (w''.cell? ⟨tb, 0, none⟩ = some (.pointer p0) ∧ w''.cell? ⟨tb, 1, none⟩ = some (.int .i64 (L.length : Nat)) ∧ w''.frozen? ⟨tb, 0, none⟩ = false ∧ w''.frozen? ⟨tb, 1, none⟩ = false) ∧
          Hid (∃ bs', Tbl ((w''.setCell ⟨tb, 0, none⟩ (.pointer q)).setCell ⟨tb, 1, none⟩ (.int .i64 ((L.length : Int) - 1))) tb bs' (delE pa n L) ∧ Kp (tb :: blocks t) w ((w''.setCell ⟨tb, 0, none⟩ (.pointer q)).setCell ⟨tb, 1, none⟩ (.int .i64 ((L.length : Int) - 1))) ∧ (∀ k ∈ bs', k ∈ (tb :: blocks t) ∨ w.heap.size ≤ k))) := by
        intro w' hb
        have := without_any pa n hpa hn h3 n t 0 w' (by omega) (hin.below hb hin.lt) hnd.2 hf (by rw [pre_zero pa hpa, hL]; exact hh)
        rw [hp0] at this
        refine Calls.mono this ?_
        rintro e w'' ⟨t', rfl, hw, hf', he⟩
        obtain ⟨q, hq⟩ := ptr_form t'
        rw [pre_zero pa hpa, hL] at he
        have hr : w''.heap[tb]? = some (.cells #[.pointer p0, .int .i64 (L.length : Nat)] 61 (0, 0)) := by
          rw [hw.kept.block tb (Nat.lt_of_lt_of_le htl hb.size) hnd.1, hb.block tb htl]; exact hroot
        have hnt : tb ∉ blocks t' := fun hm => by
          rcases hw.sub tb hm with h1 | h1
          · exact hnd.1 h1
          · have := hb.size; omega
        refine ⟨q, by rw [hq], two_cells hr, tb :: blocks t', ⟨t', rfl, ?_, ?_, ?_, hf', he, ?_⟩, ?_, ?_⟩
        · rw [Joins.block_setCell (Joins.block_setCell hr _), hq, show ((delE pa n L).length : Int) = (L.length : Int) - 1 from by omega]; simp
        · exact hw.lies.keep fun j hj => by rw [Below.heap_setCell _ _ _ _ (fun e : j = tb => hnt (e ▸ hj)), Below.heap_setCell _ _ _ _ (fun e : j = tb => hnt (e ▸ hj))]
        · rw [List.nodup_cons]; exact ⟨hnt, hw.nod⟩
        · omega
        · exact (((Kp.ofBelow hb).trans hw.kept fun x hx => Or.inl (by simp [hx])).setCell (Or.inl (by simp)) _).setCell (Or.inl (by simp)) _
        · intro k hk
          rcases List.mem_cons.1 hk with rfl | hk
          · left; simp
          · rcases hw.sub k hk with h1 | h1
            · left; simp [h1]
            · right; have := hb.size; omega
      have hlen2 : (L.length : Int) ≤ 64 := by omega
      clear hh hc hL hp0 hroot hgood hdl
      generalize L.length = N at *
      go_enter Try.func13, Try.ntmps13
      go_wp2_with fail
      refine (HC.out _).mono ?_; rintro e w1 ⟨rfl, hb1⟩
      have bx := box_keep hb1
      obtain ⟨b0, b1, _, _⟩ := two_cells bx
      have h01 := h0.trans (hb1.mono (by simp))
      go_wp2_with fail
      refine (HH.out _ h01).mono ?_; rintro e w2 ⟨rfl, hb2⟩
      have h02 := h01.trans (hb2.mono h01.size)
      obtain ⟨t0, t1, t2, t3⟩ := two_cells ((h02.block tb htl).trans RT.out)
      obtain ⟨d0, d1, _, _⟩ := two_cells ((hb2.block _ (lt_of_block bx)).trans bx)
      clear bx
      go_wp2_with fail
      go_region_with (go_at_call 29; refine (HW.out _ ?_).mono ?_; exact h02.drew; rintro e w3 ⟨q, rfl, ⟨e0, e1, e2, e3⟩, G⟩)
      all_goals
        go_wp2_with fail
        go_ret
        obtain ⟨bs', g1, g2, g3⟩ := G.out
        refine ⟨ret_int HA.out.symm, bs', ?_, g2, g3⟩
        rw [HB.out]; exact g1
  · have HA : Hid (dropC L pa pb = chk pa pb) := by show _ = _; unfold dropC; rw [if_pos hc]
    have HB : Hid (dropL L pa pb = L) := by show _ = _; unfold dropL; rw [HA.out, if_neg hc]
    have hz : (chk pa pb != 0) = true := by simpa using hc
    generalize chk pa pb = C at *
    clear hc h
    go_enter Try.func13, Try.ntmps13
    go_wp2_with fail
    refine (HC.out _).mono ?_; rintro e w1 ⟨rfl, hb1⟩
    have h01 := h0.trans (hb1.mono (by simp))
    go_wp2_with fail
    go_ret
    exact ⟨ret_int HA.out.symm, _, by rw [HB.out]; exact T.out.on h01, Kp.ofBelow h01, fun k hk => Or.inl hk⟩
end Go.Proofs.Ytchmfbfijglokaa
