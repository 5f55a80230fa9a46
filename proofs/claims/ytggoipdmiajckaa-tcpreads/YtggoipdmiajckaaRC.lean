/-
  Contracts of the document's ports and TcpCheck.
-/
import Derived.Test.YtggoipdmiajckaaCk
namespace Go.Proofs.Ytggoipdmiajckaa
open Go.RowKit
set_option linter.unusedVariables false
set_option linter.unusedSimpArgs false

/-- Two ends in a row. -/
abbrev ec (a : Int) (p : Int) (b : Int) (q : Int) : Array Value := #[.int .u32 a, .int .i64 p, .int .u32 b, .int .i64 q]

set_option maxHeartbeats 1000000 in
theorem ports_any (a p b q : Int) (k0 : Nat) (w : World) (h : w.heap[k0]? = some (.cells (ec a p b q) 24 (0, 0))) (r : Bool) (hr : r = decide (¬ badp p ∧ ¬ badp q)) :
    Calls Try.prog 30 #[.slice (some ⟨k0, 0, none⟩) 2 2] w fun e w' => e = .returned (.bool r) ∧ Below w.heap.size w w' := by
  have HB : Hid (∀ W, Below w.heap.size w W → W.heap[k0]? = some (.cells (ec a p b q) 24 (0, 0))) := fun W hb => (hb.block _ (lt_of_heap h)).trans h
  have HR : Hid (r = decide (¬ badp p ∧ ¬ badp q)) := hr
  clear hr h
  go_enter Try.func30, Try.ntmps30
  go_wp2
  go_loopw [7] (fun i w' => ((i = .int .i64 0) ∨ (i = .int .i64 1 ∧ ¬ badp p) ∨ (i = .int .i64 2 ∧ ¬ badp p ∧ ¬ badp q)) ∧ Below w.heap.size w w') (fun i _ => 2 - (intOf i).toNat)
  case atStart => exact ⟨Or.inl rfl, Below.refl _ _⟩
  case round =>
    obtain ⟨hi, hbel⟩ := hrel
    have hblk := HB.out _ hbel
    rcases hi with rfl | ⟨rfl, hp⟩ | ⟨rfl, hp, hq⟩
    · have c0 := Joins.cell_of_block hblk 0
      have c1 := Joins.cell_of_block hblk 1
      simp at c0 c1
      by_cases h0 : badp p
      · go_wp2_with (go_at_call 31; first | (refine (outside_t _ _ ?_).mono ?_; assumption; rintro e w' ⟨rfl, rfl⟩) | (refine (outside_f _ _ ?_).mono ?_; assumption; rintro e w' ⟨rfl, rfl⟩))
        go_ret
        exact ⟨ret_bool (by rw [HR.out]; simp [h0]), hbel.alloc hbel.size _⟩
      · go_wp2_with (go_at_call 31; first | (refine (outside_t _ _ ?_).mono ?_; assumption; rintro e w' ⟨rfl, rfl⟩) | (refine (outside_f _ _ ?_).mono ?_; assumption; rintro e w' ⟨rfl, rfl⟩))
        go_roundw
        case rel => exact ⟨Or.inr (Or.inl ⟨rfl, h0⟩), hbel.alloc hbel.size _⟩
        case measure => simp [intOf]
    · have c2 := Joins.cell_of_block hblk 2
      have c3 := Joins.cell_of_block hblk 3
      simp at c2 c3
      by_cases h0 : badp q
      · go_wp2_with (go_at_call 31; first | (refine (outside_t _ _ ?_).mono ?_; assumption; rintro e w' ⟨rfl, rfl⟩) | (refine (outside_f _ _ ?_).mono ?_; assumption; rintro e w' ⟨rfl, rfl⟩))
        go_ret
        exact ⟨ret_bool (by rw [HR.out]; simp [h0]), hbel.alloc hbel.size _⟩
      · go_wp2_with (go_at_call 31; first | (refine (outside_t _ _ ?_).mono ?_; assumption; rintro e w' ⟨rfl, rfl⟩) | (refine (outside_f _ _ ?_).mono ?_; assumption; rintro e w' ⟨rfl, rfl⟩))
        go_roundw
        case rel => exact ⟨Or.inr (Or.inr ⟨rfl, hp, h0⟩), hbel.alloc hbel.size _⟩
        case measure => simp [intOf]
    · go_wp2
      go_ret
      exact ⟨ret_bool (by rw [HR.out]; exact (decide_eq_true ⟨hp, hq⟩).symm), hbel⟩


set_option maxHeartbeats 1000000 in
theorem rchk_bad (g : Sg) (w : World) (h : badp g.sp ∨ badp g.dp ∨ bad0 g.win ∨ bad0 g.mss) :
    Calls Try.prog 11 #[gv g] w fun e w' => e = .returned (.int .i64 (gchk g)) ∧ Below w.heap.size w w' := by
  have HC : Hid (gchk g = 1) := gchk_1 h
  have b0 : Below w.heap.size w (w.alloc (.cells (gc g) 26)) := (Below.refl _ _).alloc (Nat.le_refl _) _
  have P0 := Lib.hid (GB.new w g)
  have HN : Hid (((w.alloc (.cells (gc g) 26)).alloc (.cells (ec (g.sa : Int) g.sp (g.da : Int) g.dp) 24)).heap[w.heap.size + 1]? = some (.cells (ec (g.sa : Int) g.sp (g.da : Int) g.dp) 24 (0, 0))) := by
    have := heap_alloc_new (w.alloc (.cells (gc g) 26)) (.cells (ec (g.sa : Int) g.sp (g.da : Int) g.dp) 24)
    rwa [show (w.alloc (.cells (gc g) 26)).heap.size = w.heap.size + 1 from by simp] at this
  generalize gchk g = c at *
  by_cases hp : badp g.sp ∨ badp g.dp
  · clear h
    go_enter Try.func11, Try.ntmps11
    go_wp2_with fail
    refine (ports_any (g.sa : Int) g.sp (g.da : Int) g.dp (w.heap.size + 1) _ HN.out false ?_).mono ?_
    · symm; rw [decide_eq_false_iff_not]; intro h; exact hp.elim h.1 h.2
    rintro e w1 ⟨rfl, hb1⟩
    have b1 := (b0.alloc (by simp) (.cells (ec (g.sa : Int) g.sp (g.da : Int) g.dp) 24)).trans (hb1.mono (by simp; omega))
    go_wp2
    go_ret
    exact ⟨ret_int HC.out.symm, b1⟩
  · have HD : Hid (true = decide (¬ badp g.sp ∧ ¬ badp g.dp)) := by
      show _ = _
      symm; rw [decide_eq_true_iff]; exact ⟨fun h => hp (Or.inl h), fun h => hp (Or.inr h)⟩
    have hw : bad0 g.win ∨ ¬ bad0 g.win ∧ bad0 g.mss := by
      by_cases hw : bad0 g.win
      · exact Or.inl hw
      · exact Or.inr ⟨hw, h.elim (fun x => absurd (Or.inl x) hp) (fun x => x.elim (fun x => absurd (Or.inr x) hp) (fun x => x.elim (fun x => absurd x hw) id))⟩
    clear h hp
    rcases hw with h2 | ⟨h2, h3⟩
    · go_enter Try.func11, Try.ntmps11
      go_wp2_with fail
      refine (ports_any (g.sa : Int) g.sp (g.da : Int) g.dp (w.heap.size + 1) _ HN.out true HD.out).mono ?_
      rintro e w1 ⟨rfl, hb1⟩
      have b1 := (b0.alloc (by simp) (.cells (ec (g.sa : Int) g.sp (g.da : Int) g.dp) 24)).trans (hb1.mono (by simp; omega))
      have P1 := (P0.out.alloc (.cells (ec (g.sa : Int) g.sp (g.da : Int) g.dp) 24)).keep hb1
      have x10 := P1.c10
      have x11 := P1.c11
      clear P1
      go_wp2_with (go_at_call 31; first | (refine (outside0_t _ _ ?_).mono ?_; assumption; rintro e w' ⟨rfl, rfl⟩) | (refine (outside0_f _ _ ?_).mono ?_; assumption; rintro e w' ⟨rfl, rfl⟩))
      go_ret
      exact ⟨ret_int HC.out.symm, b1⟩
    · go_enter Try.func11, Try.ntmps11
      go_wp2_with fail
      refine (ports_any (g.sa : Int) g.sp (g.da : Int) g.dp (w.heap.size + 1) _ HN.out true HD.out).mono ?_
      rintro e w1 ⟨rfl, hb1⟩
      have b1 := (b0.alloc (by simp) (.cells (ec (g.sa : Int) g.sp (g.da : Int) g.dp) 24)).trans (hb1.mono (by simp; omega))
      have P1 := (P0.out.alloc (.cells (ec (g.sa : Int) g.sp (g.da : Int) g.dp) 24)).keep hb1
      have x10 := P1.c10
      have x11 := P1.c11
      clear P1
      go_wp2_with (go_at_call 31; first | (refine (outside0_t _ _ ?_).mono ?_; assumption; rintro e w' ⟨rfl, rfl⟩) | (refine (outside0_f _ _ ?_).mono ?_; assumption; rintro e w' ⟨rfl, rfl⟩))
      go_ret
      exact ⟨ret_int HC.out.symm, b1⟩

set_option maxHeartbeats 4000000 in
theorem rchk_good (g : Sg) (sa : Nat) (sp : Int) (da : Nat) (dp : Int) (sq ak : Nat) (syn ack fin rst : Bool) (win mss : Int) (body : ByteArray) (w : World) (hg : g = ⟨sa, sp, da, dp, sq, ak, syn, ack, fin, rst, win, mss, body⟩) (h0 : ¬ badp sp) (h1 : ¬ badp dp) (h2 : ¬ bad0 win) (h3 : ¬ bad0 mss) :
    Calls Try.prog 11 #[gv g] w fun e w' => e = .returned (.int .i64 (gchk g)) ∧ Below w.heap.size w w' := by
  have H4 : Hid (∀ q, frm (mss != 0) ((ak : Int) != 0) syn ack fin rst = q → q = true → gchk g = 4) := fun q e1 e2 => by subst hg; exact gchk_4 (g := ⟨sa, sp, da, dp, sq, ak, syn, ack, fin, rst, win, mss, body⟩) h0 h1 h2 h3 (e1.trans e2)
  have H2 : Hid (1000 < body.size → ∀ q, frm (mss != 0) ((ak : Int) != 0) syn ack fin rst = q → q = false → gchk g = 2) := fun hs q e1 e2 => by subst hg; exact gchk_2 (g := ⟨sa, sp, da, dp, sq, ak, syn, ack, fin, rst, win, mss, body⟩) h0 h1 h2 h3 (e1.trans e2) hs
  have H0 : Hid (¬ 1000 < body.size → ∀ q, frm (mss != 0) ((ak : Int) != 0) syn ack fin rst = q → q = false → gchk g = 0) := fun hs q e1 e2 => by subst hg; exact gchk_0 (g := ⟨sa, sp, da, dp, sq, ak, syn, ack, fin, rst, win, mss, body⟩) h0 h1 h2 h3 (e1.trans e2) hs
  have HD : Hid (true = decide (¬ badp g.sp ∧ ¬ badp g.dp)) := by
    show _ = _
    symm; rw [decide_eq_true_iff]; subst hg; exact ⟨h0, h1⟩
  have b0 : Below w.heap.size w (w.alloc (.cells (gc g) 26)) := (Below.refl _ _).alloc (Nat.le_refl _) _
  have P0 := Lib.hid (GB.new w g)
  have HN : Hid (((w.alloc (.cells (gc g) 26)).alloc (.cells (ec (g.sa : Int) g.sp (g.da : Int) g.dp) 24)).heap[w.heap.size + 1]? = some (.cells (ec (g.sa : Int) g.sp (g.da : Int) g.dp) 24 (0, 0))) := by
    have := heap_alloc_new (w.alloc (.cells (gc g) 26)) (.cells (ec (g.sa : Int) g.sp (g.da : Int) g.dp) 24)
    rwa [show (w.alloc (.cells (gc g) 26)).heap.size = w.heap.size + 1 from by simp] at this
  have HX : Hid (∀ W, GB w.heap.size g W → W.cell? ⟨w.heap.size, 5, none⟩ = some (.int .u32 (ak : Int)) ∧ W.cell? ⟨w.heap.size, 6, none⟩ = some (.bool syn) ∧ W.cell? ⟨w.heap.size, 7, none⟩ = some (.bool ack) ∧ W.cell? ⟨w.heap.size, 8, none⟩ = some (.bool fin) ∧ W.cell? ⟨w.heap.size, 9, none⟩ = some (.bool rst) ∧ W.cell? ⟨w.heap.size, 10, none⟩ = some (.int .i64 win) ∧ W.cell? ⟨w.heap.size, 11, none⟩ = some (.int .i64 mss) ∧ W.cell? ⟨w.heap.size, 12, none⟩ = some (.string body)) := fun W h => by
    subst hg; exact ⟨h.c5, h.c6, h.c7, h.c8, h.c9, h.c10, h.c11, h.c12⟩
  generalize gchk g = c at *
  clear hg h0 h1
  go_enter Try.func11, Try.ntmps11
  go_wp2_with fail
  refine (ports_any (g.sa : Int) g.sp (g.da : Int) g.dp (w.heap.size + 1) _ HN.out true HD.out).mono ?_
  rintro e w1 ⟨rfl, hb1⟩
  have b1 := (b0.alloc (by simp) (.cells (ec (g.sa : Int) g.sp (g.da : Int) g.dp) 24)).trans (hb1.mono (by simp; omega))
  obtain ⟨x5, x6, x7, x8, x9, x10, x11, x12⟩ := HX.out _ ((P0.out.alloc (.cells (ec (g.sa : Int) g.sp (g.da : Int) g.dp) 24)).keep hb1)
  clear HX P0 b0 HN HD hb1
  rcases Bool.eq_false_or_eq_true syn with rfl | rfl
  · skip
    rcases Bool.eq_false_or_eq_true fin with rfl | rfl
    · skip
      go_wp2_with (go_at_call 31; first | (refine (outside0_t _ _ ?_).mono ?_; assumption; rintro e w' ⟨rfl, rfl⟩) | (refine (outside0_f _ _ ?_).mono ?_; assumption; rintro e w' ⟨rfl, rfl⟩))
      go_ret
      exact ⟨ret_int (H4.out _ (by (try rw [ME.out]); (try rw [AE.out]); unfold frm; simp) rfl).symm, b1⟩
    · skip
      rcases Bool.eq_false_or_eq_true rst with rfl | rfl
      · skip
        go_wp2_with (go_at_call 31; first | (refine (outside0_t _ _ ?_).mono ?_; assumption; rintro e w' ⟨rfl, rfl⟩) | (refine (outside0_f _ _ ?_).mono ?_; assumption; rintro e w' ⟨rfl, rfl⟩))
        go_ret
        exact ⟨ret_int (H4.out _ (by (try rw [ME.out]); (try rw [AE.out]); unfold frm; simp) rfl).symm, b1⟩
      · skip
        rcases Bool.eq_false_or_eq_true ack with rfl | rfl
        · skip
          by_cases hs : 1000 < body.size
          · have hs' : (1000 : Int) < (body.size : Int) := by omega
            go_wp2_with (go_at_call 31; first | (refine (outside0_t _ _ ?_).mono ?_; assumption; rintro e w' ⟨rfl, rfl⟩) | (refine (outside0_f _ _ ?_).mono ?_; assumption; rintro e w' ⟨rfl, rfl⟩))
            go_ret
            exact ⟨ret_int (H2.out hs _ (by (try rw [ME.out]); (try rw [AE.out]); unfold frm; simp) rfl).symm, b1⟩
          · have hs' : ¬ (1000 : Int) < (body.size : Int) := by omega
            go_wp2_with (go_at_call 31; first | (refine (outside0_t _ _ ?_).mono ?_; assumption; rintro e w' ⟨rfl, rfl⟩) | (refine (outside0_f _ _ ?_).mono ?_; assumption; rintro e w' ⟨rfl, rfl⟩))
            go_ret
            exact ⟨ret_int (H0.out hs _ (by (try rw [ME.out]); (try rw [AE.out]); unfold frm; simp) rfl).symm, b1⟩
        · skip
          rcases Bool.eq_false_or_eq_true ((ak : Int) != 0) with ha | ha
          · have AE : Hid (((ak : Int) != 0) = true) := ha
            have ha' : (0 : Int) < (ak : Int) := by simp at ha; omega
            go_wp2_with (go_at_call 31; first | (refine (outside0_t _ _ ?_).mono ?_; assumption; rintro e w' ⟨rfl, rfl⟩) | (refine (outside0_f _ _ ?_).mono ?_; assumption; rintro e w' ⟨rfl, rfl⟩))
            go_ret
            exact ⟨ret_int (H4.out _ (by (try rw [ME.out]); (try rw [AE.out]); unfold frm; simp) rfl).symm, b1⟩
          · have AE : Hid (((ak : Int) != 0) = false) := ha
            have ha' : ¬ (0 : Int) < (ak : Int) := by simp at ha; omega
            by_cases hs : 1000 < body.size
            · have hs' : (1000 : Int) < (body.size : Int) := by omega
              go_wp2_with (go_at_call 31; first | (refine (outside0_t _ _ ?_).mono ?_; assumption; rintro e w' ⟨rfl, rfl⟩) | (refine (outside0_f _ _ ?_).mono ?_; assumption; rintro e w' ⟨rfl, rfl⟩))
              go_ret
              exact ⟨ret_int (H2.out hs _ (by (try rw [ME.out]); (try rw [AE.out]); unfold frm; simp) rfl).symm, b1⟩
            · have hs' : ¬ (1000 : Int) < (body.size : Int) := by omega
              go_wp2_with (go_at_call 31; first | (refine (outside0_t _ _ ?_).mono ?_; assumption; rintro e w' ⟨rfl, rfl⟩) | (refine (outside0_f _ _ ?_).mono ?_; assumption; rintro e w' ⟨rfl, rfl⟩))
              go_ret
              exact ⟨ret_int (H0.out hs _ (by (try rw [ME.out]); (try rw [AE.out]); unfold frm; simp) rfl).symm, b1⟩
  · skip
    rcases Bool.eq_false_or_eq_true (mss != 0) with hm | hm
    · have ME : Hid ((mss != 0) = true) := hm
      have hm' : 0 < mss := by simp at hm; unfold bad0 at h3; omega
      go_wp2_with (go_at_call 31; first | (refine (outside0_t _ _ ?_).mono ?_; assumption; rintro e w' ⟨rfl, rfl⟩) | (refine (outside0_f _ _ ?_).mono ?_; assumption; rintro e w' ⟨rfl, rfl⟩))
      go_ret
      exact ⟨ret_int (H4.out _ (by (try rw [ME.out]); (try rw [AE.out]); unfold frm; simp) rfl).symm, b1⟩
    · have ME : Hid ((mss != 0) = false) := hm
      have hm' : ¬ 0 < mss := by simp at hm; omega
      rcases Bool.eq_false_or_eq_true fin with rfl | rfl
      · skip
        rcases Bool.eq_false_or_eq_true rst with rfl | rfl
        · skip
          go_wp2_with (go_at_call 31; first | (refine (outside0_t _ _ ?_).mono ?_; assumption; rintro e w' ⟨rfl, rfl⟩) | (refine (outside0_f _ _ ?_).mono ?_; assumption; rintro e w' ⟨rfl, rfl⟩))
          go_ret
          exact ⟨ret_int (H4.out _ (by (try rw [ME.out]); (try rw [AE.out]); unfold frm; simp) rfl).symm, b1⟩
        · skip
          rcases Bool.eq_false_or_eq_true ack with rfl | rfl
          · skip
            by_cases hs : 1000 < body.size
            · have hs' : (1000 : Int) < (body.size : Int) := by omega
              go_wp2_with (go_at_call 31; first | (refine (outside0_t _ _ ?_).mono ?_; assumption; rintro e w' ⟨rfl, rfl⟩) | (refine (outside0_f _ _ ?_).mono ?_; assumption; rintro e w' ⟨rfl, rfl⟩))
              go_ret
              exact ⟨ret_int (H2.out hs _ (by (try rw [ME.out]); (try rw [AE.out]); unfold frm; simp) rfl).symm, b1⟩
            · have hs' : ¬ (1000 : Int) < (body.size : Int) := by omega
              go_wp2_with (go_at_call 31; first | (refine (outside0_t _ _ ?_).mono ?_; assumption; rintro e w' ⟨rfl, rfl⟩) | (refine (outside0_f _ _ ?_).mono ?_; assumption; rintro e w' ⟨rfl, rfl⟩))
              go_ret
              exact ⟨ret_int (H0.out hs _ (by (try rw [ME.out]); (try rw [AE.out]); unfold frm; simp) rfl).symm, b1⟩
          · skip
            rcases Bool.eq_false_or_eq_true ((ak : Int) != 0) with ha | ha
            · have AE : Hid (((ak : Int) != 0) = true) := ha
              have ha' : (0 : Int) < (ak : Int) := by simp at ha; omega
              go_wp2_with (go_at_call 31; first | (refine (outside0_t _ _ ?_).mono ?_; assumption; rintro e w' ⟨rfl, rfl⟩) | (refine (outside0_f _ _ ?_).mono ?_; assumption; rintro e w' ⟨rfl, rfl⟩))
              go_ret
              exact ⟨ret_int (H4.out _ (by (try rw [ME.out]); (try rw [AE.out]); unfold frm; simp) rfl).symm, b1⟩
            · have AE : Hid (((ak : Int) != 0) = false) := ha
              have ha' : ¬ (0 : Int) < (ak : Int) := by simp at ha; omega
              by_cases hs : 1000 < body.size
              · have hs' : (1000 : Int) < (body.size : Int) := by omega
                go_wp2_with (go_at_call 31; first | (refine (outside0_t _ _ ?_).mono ?_; assumption; rintro e w' ⟨rfl, rfl⟩) | (refine (outside0_f _ _ ?_).mono ?_; assumption; rintro e w' ⟨rfl, rfl⟩))
                go_ret
                exact ⟨ret_int (H2.out hs _ (by (try rw [ME.out]); (try rw [AE.out]); unfold frm; simp) rfl).symm, b1⟩
              · have hs' : ¬ (1000 : Int) < (body.size : Int) := by omega
                go_wp2_with (go_at_call 31; first | (refine (outside0_t _ _ ?_).mono ?_; assumption; rintro e w' ⟨rfl, rfl⟩) | (refine (outside0_f _ _ ?_).mono ?_; assumption; rintro e w' ⟨rfl, rfl⟩))
                go_ret
                exact ⟨ret_int (H0.out hs _ (by (try rw [ME.out]); (try rw [AE.out]); unfold frm; simp) rfl).symm, b1⟩
      · skip
        rcases Bool.eq_false_or_eq_true rst with rfl | rfl
        · skip
          rcases Bool.eq_false_or_eq_true ack with rfl | rfl
          · skip
            by_cases hs : 1000 < body.size
            · have hs' : (1000 : Int) < (body.size : Int) := by omega
              go_wp2_with (go_at_call 31; first | (refine (outside0_t _ _ ?_).mono ?_; assumption; rintro e w' ⟨rfl, rfl⟩) | (refine (outside0_f _ _ ?_).mono ?_; assumption; rintro e w' ⟨rfl, rfl⟩))
              go_ret
              exact ⟨ret_int (H2.out hs _ (by (try rw [ME.out]); (try rw [AE.out]); unfold frm; simp) rfl).symm, b1⟩
            · have hs' : ¬ (1000 : Int) < (body.size : Int) := by omega
              go_wp2_with (go_at_call 31; first | (refine (outside0_t _ _ ?_).mono ?_; assumption; rintro e w' ⟨rfl, rfl⟩) | (refine (outside0_f _ _ ?_).mono ?_; assumption; rintro e w' ⟨rfl, rfl⟩))
              go_ret
              exact ⟨ret_int (H0.out hs _ (by (try rw [ME.out]); (try rw [AE.out]); unfold frm; simp) rfl).symm, b1⟩
          · skip
            rcases Bool.eq_false_or_eq_true ((ak : Int) != 0) with ha | ha
            · have AE : Hid (((ak : Int) != 0) = true) := ha
              have ha' : (0 : Int) < (ak : Int) := by simp at ha; omega
              go_wp2_with (go_at_call 31; first | (refine (outside0_t _ _ ?_).mono ?_; assumption; rintro e w' ⟨rfl, rfl⟩) | (refine (outside0_f _ _ ?_).mono ?_; assumption; rintro e w' ⟨rfl, rfl⟩))
              go_ret
              exact ⟨ret_int (H4.out _ (by (try rw [ME.out]); (try rw [AE.out]); unfold frm; simp) rfl).symm, b1⟩
            · have AE : Hid (((ak : Int) != 0) = false) := ha
              have ha' : ¬ (0 : Int) < (ak : Int) := by simp at ha; omega
              by_cases hs : 1000 < body.size
              · have hs' : (1000 : Int) < (body.size : Int) := by omega
                go_wp2_with (go_at_call 31; first | (refine (outside0_t _ _ ?_).mono ?_; assumption; rintro e w' ⟨rfl, rfl⟩) | (refine (outside0_f _ _ ?_).mono ?_; assumption; rintro e w' ⟨rfl, rfl⟩))
                go_ret
                exact ⟨ret_int (H2.out hs _ (by (try rw [ME.out]); (try rw [AE.out]); unfold frm; simp) rfl).symm, b1⟩
              · have hs' : ¬ (1000 : Int) < (body.size : Int) := by omega
                go_wp2_with (go_at_call 31; first | (refine (outside0_t _ _ ?_).mono ?_; assumption; rintro e w' ⟨rfl, rfl⟩) | (refine (outside0_f _ _ ?_).mono ?_; assumption; rintro e w' ⟨rfl, rfl⟩))
                go_ret
                exact ⟨ret_int (H0.out hs _ (by (try rw [ME.out]); (try rw [AE.out]); unfold frm; simp) rfl).symm, b1⟩
        · skip
          rcases Bool.eq_false_or_eq_true ack with rfl | rfl
          · skip
            by_cases hs : 1000 < body.size
            · have hs' : (1000 : Int) < (body.size : Int) := by omega
              go_wp2_with (go_at_call 31; first | (refine (outside0_t _ _ ?_).mono ?_; assumption; rintro e w' ⟨rfl, rfl⟩) | (refine (outside0_f _ _ ?_).mono ?_; assumption; rintro e w' ⟨rfl, rfl⟩))
              go_ret
              exact ⟨ret_int (H2.out hs _ (by (try rw [ME.out]); (try rw [AE.out]); unfold frm; simp) rfl).symm, b1⟩
            · have hs' : ¬ (1000 : Int) < (body.size : Int) := by omega
              go_wp2_with (go_at_call 31; first | (refine (outside0_t _ _ ?_).mono ?_; assumption; rintro e w' ⟨rfl, rfl⟩) | (refine (outside0_f _ _ ?_).mono ?_; assumption; rintro e w' ⟨rfl, rfl⟩))
              go_ret
              exact ⟨ret_int (H0.out hs _ (by (try rw [ME.out]); (try rw [AE.out]); unfold frm; simp) rfl).symm, b1⟩
          · skip
            rcases Bool.eq_false_or_eq_true ((ak : Int) != 0) with ha | ha
            · have AE : Hid (((ak : Int) != 0) = true) := ha
              have ha' : (0 : Int) < (ak : Int) := by simp at ha; omega
              go_wp2_with (go_at_call 31; first | (refine (outside0_t _ _ ?_).mono ?_; assumption; rintro e w' ⟨rfl, rfl⟩) | (refine (outside0_f _ _ ?_).mono ?_; assumption; rintro e w' ⟨rfl, rfl⟩))
              go_ret
              exact ⟨ret_int (H4.out _ (by (try rw [ME.out]); (try rw [AE.out]); unfold frm; simp) rfl).symm, b1⟩
            · have AE : Hid (((ak : Int) != 0) = false) := ha
              have ha' : ¬ (0 : Int) < (ak : Int) := by simp at ha; omega
              by_cases hs : 1000 < body.size
              · have hs' : (1000 : Int) < (body.size : Int) := by omega
                go_wp2_with (go_at_call 31; first | (refine (outside0_t _ _ ?_).mono ?_; assumption; rintro e w' ⟨rfl, rfl⟩) | (refine (outside0_f _ _ ?_).mono ?_; assumption; rintro e w' ⟨rfl, rfl⟩))
                go_ret
                exact ⟨ret_int (H2.out hs _ (by (try rw [ME.out]); (try rw [AE.out]); unfold frm; simp) rfl).symm, b1⟩
              · have hs' : ¬ (1000 : Int) < (body.size : Int) := by omega
                go_wp2_with (go_at_call 31; first | (refine (outside0_t _ _ ?_).mono ?_; assumption; rintro e w' ⟨rfl, rfl⟩) | (refine (outside0_f _ _ ?_).mono ?_; assumption; rintro e w' ⟨rfl, rfl⟩))
                go_ret
                exact ⟨ret_int (H0.out hs _ (by (try rw [ME.out]); (try rw [AE.out]); unfold frm; simp) rfl).symm, b1⟩

theorem rchk_any (g : Sg) (w : World) :
    Calls Try.prog 11 #[gv g] w fun e w' => e = .returned (.int .i64 (gchk g)) ∧ Below w.heap.size w w' := by
  by_cases h : badp g.sp ∨ badp g.dp ∨ bad0 g.win ∨ bad0 g.mss
  · exact rchk_bad g w h
  · obtain ⟨sa, sp, da, dp, sq, ak, syn, ack, fin, rst, win, mss, body⟩ := g
    exact rchk_good _ sa sp da dp sq ak syn ack fin rst win mss body w rfl (fun x => h (Or.inl x)) (fun x => h (Or.inr (Or.inl x))) (fun x => h (Or.inr (Or.inr (Or.inl x)))) (fun x => h (Or.inr (Or.inr (Or.inr x))))
end Go.Proofs.Ytggoipdmiajckaa
