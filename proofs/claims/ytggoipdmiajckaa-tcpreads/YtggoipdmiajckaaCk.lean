/-
  Contract of Check (package tcp).
-/
import Derived.Test.YtggoipdmiajckaaSg
namespace Go.Proofs.Ytggoipdmiajckaa
open Go.RowKit
set_option linter.unusedVariables false
set_option linter.unusedSimpArgs false

theorem gchk_1 {g : Sg} (h : badp g.sp ∨ badp g.dp ∨ bad0 g.win ∨ bad0 g.mss) : gchk g = 1 := by unfold gchk; rw [if_pos h]
theorem gchk_4 {g : Sg} (h1 : ¬ badp g.sp) (h2 : ¬ badp g.dp) (h3 : ¬ bad0 g.win) (h4 : ¬ bad0 g.mss) (h : frm (g.mss != 0) ((g.ak : Int) != 0) g.syn g.ack g.fin g.rst = true) : gchk g = 4 := by
  unfold gchk; rw [if_neg (fun x => x.elim h1 (fun x => x.elim h2 (fun x => x.elim h3 h4))), if_pos h]
theorem gchk_2 {g : Sg} (h1 : ¬ badp g.sp) (h2 : ¬ badp g.dp) (h3 : ¬ bad0 g.win) (h4 : ¬ bad0 g.mss) (h : frm (g.mss != 0) ((g.ak : Int) != 0) g.syn g.ack g.fin g.rst = false) (hs : 1000 < g.body.size) : gchk g = 2 := by
  unfold gchk; rw [if_neg (fun x => x.elim h1 (fun x => x.elim h2 (fun x => x.elim h3 h4))), if_neg (by rw [h]; decide), if_pos hs]
theorem gchk_0 {g : Sg} (h1 : ¬ badp g.sp) (h2 : ¬ badp g.dp) (h3 : ¬ bad0 g.win) (h4 : ¬ bad0 g.mss) (h : frm (g.mss != 0) ((g.ak : Int) != 0) g.syn g.ack g.fin g.rst = false) (hs : ¬ 1000 < g.body.size) : gchk g = 0 := by
  unfold gchk; rw [if_neg (fun x => x.elim h1 (fun x => x.elim h2 (fun x => x.elim h3 h4))), if_neg (by rw [h]; decide), if_neg hs]

theorem chk_bad (g : Sg) (w : World) (h : badp g.sp ∨ badp g.dp ∨ bad0 g.win ∨ bad0 g.mss) :
    Calls Try.prog 10 #[gv g] w fun e w' => e = .returned (.int .i64 (gchk g)) ∧ Below w.heap.size w w' := by
  have HC : Hid (gchk g = 1) := gchk_1 h
  by_cases h0 : badp g.sp
  · clear h
    go_enter Try.func10, Try.ntmps10
    go_wp2_with (first | (go_at_call 28; first | (refine (isPort_f _ _ ?_).mono ?_; assumption; rintro e w' ⟨rfl, rfl⟩) | (refine (isPort_t _ _ ?_).mono ?_; assumption; rintro e w' ⟨rfl, rfl⟩)) | (go_at_call 29; first | (refine (beyond_t _ _ ?_).mono ?_; assumption; rintro e w' ⟨rfl, rfl⟩) | (refine (beyond_f _ _ ?_).mono ?_; assumption; rintro e w' ⟨rfl, rfl⟩)))
    go_ret
    exact ⟨ret_int (HC.out).symm, (Below.refl _ _).alloc (Nat.le_refl _) _⟩
  by_cases h1 : badp g.dp
  · clear h
    go_enter Try.func10, Try.ntmps10
    go_wp2_with (first | (go_at_call 28; first | (refine (isPort_f _ _ ?_).mono ?_; assumption; rintro e w' ⟨rfl, rfl⟩) | (refine (isPort_t _ _ ?_).mono ?_; assumption; rintro e w' ⟨rfl, rfl⟩)) | (go_at_call 29; first | (refine (beyond_t _ _ ?_).mono ?_; assumption; rintro e w' ⟨rfl, rfl⟩) | (refine (beyond_f _ _ ?_).mono ?_; assumption; rintro e w' ⟨rfl, rfl⟩)))
    go_ret
    exact ⟨ret_int (HC.out).symm, (Below.refl _ _).alloc (Nat.le_refl _) _⟩
  by_cases h2 : bad0 g.win
  · clear h
    go_enter Try.func10, Try.ntmps10
    go_wp2_with (first | (go_at_call 28; first | (refine (isPort_f _ _ ?_).mono ?_; assumption; rintro e w' ⟨rfl, rfl⟩) | (refine (isPort_t _ _ ?_).mono ?_; assumption; rintro e w' ⟨rfl, rfl⟩)) | (go_at_call 29; first | (refine (beyond_t _ _ ?_).mono ?_; assumption; rintro e w' ⟨rfl, rfl⟩) | (refine (beyond_f _ _ ?_).mono ?_; assumption; rintro e w' ⟨rfl, rfl⟩)))
    go_ret
    exact ⟨ret_int (HC.out).symm, (Below.refl _ _).alloc (Nat.le_refl _) _⟩
  have h3 : bad0 g.mss := by
    rcases h with h | h | h | h
    · exact absurd h h0
    · exact absurd h h1
    · exact absurd h h2
    · exact h
  clear h
  go_enter Try.func10, Try.ntmps10
  go_wp2_with (first | (go_at_call 28; first | (refine (isPort_f _ _ ?_).mono ?_; assumption; rintro e w' ⟨rfl, rfl⟩) | (refine (isPort_t _ _ ?_).mono ?_; assumption; rintro e w' ⟨rfl, rfl⟩)) | (go_at_call 29; first | (refine (beyond_t _ _ ?_).mono ?_; assumption; rintro e w' ⟨rfl, rfl⟩) | (refine (beyond_f _ _ ?_).mono ?_; assumption; rintro e w' ⟨rfl, rfl⟩)))
  go_ret
  exact ⟨ret_int (HC.out).symm, (Below.refl _ _).alloc (Nat.le_refl _) _⟩

set_option maxHeartbeats 8000000 in
theorem chk_good (sa : Nat) (sp : Int) (da : Nat) (dp : Int) (sq ak : Nat) (syn ack fin rst : Bool) (win mss : Int) (body : ByteArray) (w : World) (h0 : ¬ badp sp) (h1 : ¬ badp dp) (h2 : ¬ bad0 win) (h3 : ¬ bad0 mss) :
    Calls Try.prog 10 #[gv ⟨sa, sp, da, dp, sq, ak, syn, ack, fin, rst, win, mss, body⟩] w fun e w' => e = .returned (.int .i64 (gchk ⟨sa, sp, da, dp, sq, ak, syn, ack, fin, rst, win, mss, body⟩)) ∧ Below w.heap.size w w' := by
  have H4 : Hid (∀ q, frm (mss != 0) ((ak : Int) != 0) syn ack fin rst = q → q = true → gchk ⟨sa, sp, da, dp, sq, ak, syn, ack, fin, rst, win, mss, body⟩ = 4) := fun q e1 e2 => gchk_4 (g := ⟨sa, sp, da, dp, sq, ak, syn, ack, fin, rst, win, mss, body⟩) h0 h1 h2 h3 (e1.trans e2)
  have H2 : Hid (1000 < body.size → ∀ q, frm (mss != 0) ((ak : Int) != 0) syn ack fin rst = q → q = false → gchk ⟨sa, sp, da, dp, sq, ak, syn, ack, fin, rst, win, mss, body⟩ = 2) := fun hs q e1 e2 => gchk_2 (g := ⟨sa, sp, da, dp, sq, ak, syn, ack, fin, rst, win, mss, body⟩) h0 h1 h2 h3 (e1.trans e2) hs
  have H0 : Hid (¬ 1000 < body.size → ∀ q, frm (mss != 0) ((ak : Int) != 0) syn ack fin rst = q → q = false → gchk ⟨sa, sp, da, dp, sq, ak, syn, ack, fin, rst, win, mss, body⟩ = 0) := fun hs q e1 e2 => gchk_0 (g := ⟨sa, sp, da, dp, sq, ak, syn, ack, fin, rst, win, mss, body⟩) h0 h1 h2 h3 (e1.trans e2) hs
  generalize hG : gchk ⟨sa, sp, da, dp, sq, ak, syn, ack, fin, rst, win, mss, body⟩ = G at *
  clear hG
  rcases Bool.eq_false_or_eq_true (mss != 0) with hm | hm
  · have ME : Hid ((mss != 0) = true) := hm
    rcases Bool.eq_false_or_eq_true syn with rfl | rfl
    · skip
      rcases Bool.eq_false_or_eq_true fin with rfl | rfl
      · skip
        go_enter Try.func10, Try.ntmps10
        go_wp2_with (first | (go_at_call 28; first | (refine (isPort_f _ _ ?_).mono ?_; assumption; rintro e w' ⟨rfl, rfl⟩) | (refine (isPort_t _ _ ?_).mono ?_; assumption; rintro e w' ⟨rfl, rfl⟩)) | (go_at_call 29; first | (refine (beyond_t _ _ ?_).mono ?_; assumption; rintro e w' ⟨rfl, rfl⟩) | (refine (beyond_f _ _ ?_).mono ?_; assumption; rintro e w' ⟨rfl, rfl⟩)))
        go_ret
        exact ⟨ret_int (H4.out _ (by (try rw [ME.out]); (try rw [AE.out]); unfold frm; simp) rfl).symm, (Below.refl _ _).alloc (Nat.le_refl _) _⟩
      · skip
        rcases Bool.eq_false_or_eq_true rst with rfl | rfl
        · skip
          go_enter Try.func10, Try.ntmps10
          go_wp2_with (first | (go_at_call 28; first | (refine (isPort_f _ _ ?_).mono ?_; assumption; rintro e w' ⟨rfl, rfl⟩) | (refine (isPort_t _ _ ?_).mono ?_; assumption; rintro e w' ⟨rfl, rfl⟩)) | (go_at_call 29; first | (refine (beyond_t _ _ ?_).mono ?_; assumption; rintro e w' ⟨rfl, rfl⟩) | (refine (beyond_f _ _ ?_).mono ?_; assumption; rintro e w' ⟨rfl, rfl⟩)))
          go_ret
          exact ⟨ret_int (H4.out _ (by (try rw [ME.out]); (try rw [AE.out]); unfold frm; simp) rfl).symm, (Below.refl _ _).alloc (Nat.le_refl _) _⟩
        · skip
          rcases Bool.eq_false_or_eq_true ((ak : Int) != 0) with ha | ha
          · have AE : Hid (((ak : Int) != 0) = true) := ha
            rcases Bool.eq_false_or_eq_true ack with rfl | rfl
            · skip
              by_cases hs : 1000 < body.size
              · have hs' : (1000 : Int) < (body.size : Int) := by omega
                go_enter Try.func10, Try.ntmps10
                go_wp2_with (first | (go_at_call 28; first | (refine (isPort_f _ _ ?_).mono ?_; assumption; rintro e w' ⟨rfl, rfl⟩) | (refine (isPort_t _ _ ?_).mono ?_; assumption; rintro e w' ⟨rfl, rfl⟩)) | (go_at_call 29; first | (refine (beyond_t _ _ ?_).mono ?_; assumption; rintro e w' ⟨rfl, rfl⟩) | (refine (beyond_f _ _ ?_).mono ?_; assumption; rintro e w' ⟨rfl, rfl⟩)))
                go_ret
                exact ⟨ret_int (H2.out hs _ (by (try rw [ME.out]); (try rw [AE.out]); unfold frm; simp) rfl).symm, (Below.refl _ _).alloc (Nat.le_refl _) _⟩
              · have hs' : ¬ (1000 : Int) < (body.size : Int) := by omega
                go_enter Try.func10, Try.ntmps10
                go_wp2_with (first | (go_at_call 28; first | (refine (isPort_f _ _ ?_).mono ?_; assumption; rintro e w' ⟨rfl, rfl⟩) | (refine (isPort_t _ _ ?_).mono ?_; assumption; rintro e w' ⟨rfl, rfl⟩)) | (go_at_call 29; first | (refine (beyond_t _ _ ?_).mono ?_; assumption; rintro e w' ⟨rfl, rfl⟩) | (refine (beyond_f _ _ ?_).mono ?_; assumption; rintro e w' ⟨rfl, rfl⟩)))
                go_ret
                exact ⟨ret_int (H0.out hs _ (by (try rw [ME.out]); (try rw [AE.out]); unfold frm; simp) rfl).symm, (Below.refl _ _).alloc (Nat.le_refl _) _⟩
            · skip
              go_enter Try.func10, Try.ntmps10
              go_wp2_with (first | (go_at_call 28; first | (refine (isPort_f _ _ ?_).mono ?_; assumption; rintro e w' ⟨rfl, rfl⟩) | (refine (isPort_t _ _ ?_).mono ?_; assumption; rintro e w' ⟨rfl, rfl⟩)) | (go_at_call 29; first | (refine (beyond_t _ _ ?_).mono ?_; assumption; rintro e w' ⟨rfl, rfl⟩) | (refine (beyond_f _ _ ?_).mono ?_; assumption; rintro e w' ⟨rfl, rfl⟩)))
              go_ret
              exact ⟨ret_int (H4.out _ (by (try rw [ME.out]); (try rw [AE.out]); unfold frm; simp) rfl).symm, (Below.refl _ _).alloc (Nat.le_refl _) _⟩
          · have AE : Hid (((ak : Int) != 0) = false) := ha
            by_cases hs : 1000 < body.size
            · have hs' : (1000 : Int) < (body.size : Int) := by omega
              go_enter Try.func10, Try.ntmps10
              go_wp2_with (first | (go_at_call 28; first | (refine (isPort_f _ _ ?_).mono ?_; assumption; rintro e w' ⟨rfl, rfl⟩) | (refine (isPort_t _ _ ?_).mono ?_; assumption; rintro e w' ⟨rfl, rfl⟩)) | (go_at_call 29; first | (refine (beyond_t _ _ ?_).mono ?_; assumption; rintro e w' ⟨rfl, rfl⟩) | (refine (beyond_f _ _ ?_).mono ?_; assumption; rintro e w' ⟨rfl, rfl⟩)))
              go_ret
              exact ⟨ret_int (H2.out hs _ (by (try rw [ME.out]); (try rw [AE.out]); unfold frm; simp) rfl).symm, (Below.refl _ _).alloc (Nat.le_refl _) _⟩
            · have hs' : ¬ (1000 : Int) < (body.size : Int) := by omega
              go_enter Try.func10, Try.ntmps10
              go_wp2_with (first | (go_at_call 28; first | (refine (isPort_f _ _ ?_).mono ?_; assumption; rintro e w' ⟨rfl, rfl⟩) | (refine (isPort_t _ _ ?_).mono ?_; assumption; rintro e w' ⟨rfl, rfl⟩)) | (go_at_call 29; first | (refine (beyond_t _ _ ?_).mono ?_; assumption; rintro e w' ⟨rfl, rfl⟩) | (refine (beyond_f _ _ ?_).mono ?_; assumption; rintro e w' ⟨rfl, rfl⟩)))
              go_ret
              exact ⟨ret_int (H0.out hs _ (by (try rw [ME.out]); (try rw [AE.out]); unfold frm; simp) rfl).symm, (Below.refl _ _).alloc (Nat.le_refl _) _⟩
    · skip
      go_enter Try.func10, Try.ntmps10
      go_wp2_with (first | (go_at_call 28; first | (refine (isPort_f _ _ ?_).mono ?_; assumption; rintro e w' ⟨rfl, rfl⟩) | (refine (isPort_t _ _ ?_).mono ?_; assumption; rintro e w' ⟨rfl, rfl⟩)) | (go_at_call 29; first | (refine (beyond_t _ _ ?_).mono ?_; assumption; rintro e w' ⟨rfl, rfl⟩) | (refine (beyond_f _ _ ?_).mono ?_; assumption; rintro e w' ⟨rfl, rfl⟩)))
      go_ret
      exact ⟨ret_int (H4.out _ (by (try rw [ME.out]); (try rw [AE.out]); unfold frm; simp) rfl).symm, (Below.refl _ _).alloc (Nat.le_refl _) _⟩
  · have ME : Hid ((mss != 0) = false) := hm
    rcases Bool.eq_false_or_eq_true syn with rfl | rfl
    · skip
      rcases Bool.eq_false_or_eq_true fin with rfl | rfl
      · skip
        go_enter Try.func10, Try.ntmps10
        go_wp2_with (first | (go_at_call 28; first | (refine (isPort_f _ _ ?_).mono ?_; assumption; rintro e w' ⟨rfl, rfl⟩) | (refine (isPort_t _ _ ?_).mono ?_; assumption; rintro e w' ⟨rfl, rfl⟩)) | (go_at_call 29; first | (refine (beyond_t _ _ ?_).mono ?_; assumption; rintro e w' ⟨rfl, rfl⟩) | (refine (beyond_f _ _ ?_).mono ?_; assumption; rintro e w' ⟨rfl, rfl⟩)))
        go_ret
        exact ⟨ret_int (H4.out _ (by (try rw [ME.out]); (try rw [AE.out]); unfold frm; simp) rfl).symm, (Below.refl _ _).alloc (Nat.le_refl _) _⟩
      · skip
        rcases Bool.eq_false_or_eq_true rst with rfl | rfl
        · skip
          go_enter Try.func10, Try.ntmps10
          go_wp2_with (first | (go_at_call 28; first | (refine (isPort_f _ _ ?_).mono ?_; assumption; rintro e w' ⟨rfl, rfl⟩) | (refine (isPort_t _ _ ?_).mono ?_; assumption; rintro e w' ⟨rfl, rfl⟩)) | (go_at_call 29; first | (refine (beyond_t _ _ ?_).mono ?_; assumption; rintro e w' ⟨rfl, rfl⟩) | (refine (beyond_f _ _ ?_).mono ?_; assumption; rintro e w' ⟨rfl, rfl⟩)))
          go_ret
          exact ⟨ret_int (H4.out _ (by (try rw [ME.out]); (try rw [AE.out]); unfold frm; simp) rfl).symm, (Below.refl _ _).alloc (Nat.le_refl _) _⟩
        · skip
          rcases Bool.eq_false_or_eq_true ((ak : Int) != 0) with ha | ha
          · have AE : Hid (((ak : Int) != 0) = true) := ha
            rcases Bool.eq_false_or_eq_true ack with rfl | rfl
            · skip
              by_cases hs : 1000 < body.size
              · have hs' : (1000 : Int) < (body.size : Int) := by omega
                go_enter Try.func10, Try.ntmps10
                go_wp2_with (first | (go_at_call 28; first | (refine (isPort_f _ _ ?_).mono ?_; assumption; rintro e w' ⟨rfl, rfl⟩) | (refine (isPort_t _ _ ?_).mono ?_; assumption; rintro e w' ⟨rfl, rfl⟩)) | (go_at_call 29; first | (refine (beyond_t _ _ ?_).mono ?_; assumption; rintro e w' ⟨rfl, rfl⟩) | (refine (beyond_f _ _ ?_).mono ?_; assumption; rintro e w' ⟨rfl, rfl⟩)))
                go_ret
                exact ⟨ret_int (H2.out hs _ (by (try rw [ME.out]); (try rw [AE.out]); unfold frm; simp) rfl).symm, (Below.refl _ _).alloc (Nat.le_refl _) _⟩
              · have hs' : ¬ (1000 : Int) < (body.size : Int) := by omega
                go_enter Try.func10, Try.ntmps10
                go_wp2_with (first | (go_at_call 28; first | (refine (isPort_f _ _ ?_).mono ?_; assumption; rintro e w' ⟨rfl, rfl⟩) | (refine (isPort_t _ _ ?_).mono ?_; assumption; rintro e w' ⟨rfl, rfl⟩)) | (go_at_call 29; first | (refine (beyond_t _ _ ?_).mono ?_; assumption; rintro e w' ⟨rfl, rfl⟩) | (refine (beyond_f _ _ ?_).mono ?_; assumption; rintro e w' ⟨rfl, rfl⟩)))
                go_ret
                exact ⟨ret_int (H0.out hs _ (by (try rw [ME.out]); (try rw [AE.out]); unfold frm; simp) rfl).symm, (Below.refl _ _).alloc (Nat.le_refl _) _⟩
            · skip
              go_enter Try.func10, Try.ntmps10
              go_wp2_with (first | (go_at_call 28; first | (refine (isPort_f _ _ ?_).mono ?_; assumption; rintro e w' ⟨rfl, rfl⟩) | (refine (isPort_t _ _ ?_).mono ?_; assumption; rintro e w' ⟨rfl, rfl⟩)) | (go_at_call 29; first | (refine (beyond_t _ _ ?_).mono ?_; assumption; rintro e w' ⟨rfl, rfl⟩) | (refine (beyond_f _ _ ?_).mono ?_; assumption; rintro e w' ⟨rfl, rfl⟩)))
              go_ret
              exact ⟨ret_int (H4.out _ (by (try rw [ME.out]); (try rw [AE.out]); unfold frm; simp) rfl).symm, (Below.refl _ _).alloc (Nat.le_refl _) _⟩
          · have AE : Hid (((ak : Int) != 0) = false) := ha
            by_cases hs : 1000 < body.size
            · have hs' : (1000 : Int) < (body.size : Int) := by omega
              go_enter Try.func10, Try.ntmps10
              go_wp2_with (first | (go_at_call 28; first | (refine (isPort_f _ _ ?_).mono ?_; assumption; rintro e w' ⟨rfl, rfl⟩) | (refine (isPort_t _ _ ?_).mono ?_; assumption; rintro e w' ⟨rfl, rfl⟩)) | (go_at_call 29; first | (refine (beyond_t _ _ ?_).mono ?_; assumption; rintro e w' ⟨rfl, rfl⟩) | (refine (beyond_f _ _ ?_).mono ?_; assumption; rintro e w' ⟨rfl, rfl⟩)))
              go_ret
              exact ⟨ret_int (H2.out hs _ (by (try rw [ME.out]); (try rw [AE.out]); unfold frm; simp) rfl).symm, (Below.refl _ _).alloc (Nat.le_refl _) _⟩
            · have hs' : ¬ (1000 : Int) < (body.size : Int) := by omega
              go_enter Try.func10, Try.ntmps10
              go_wp2_with (first | (go_at_call 28; first | (refine (isPort_f _ _ ?_).mono ?_; assumption; rintro e w' ⟨rfl, rfl⟩) | (refine (isPort_t _ _ ?_).mono ?_; assumption; rintro e w' ⟨rfl, rfl⟩)) | (go_at_call 29; first | (refine (beyond_t _ _ ?_).mono ?_; assumption; rintro e w' ⟨rfl, rfl⟩) | (refine (beyond_f _ _ ?_).mono ?_; assumption; rintro e w' ⟨rfl, rfl⟩)))
              go_ret
              exact ⟨ret_int (H0.out hs _ (by (try rw [ME.out]); (try rw [AE.out]); unfold frm; simp) rfl).symm, (Below.refl _ _).alloc (Nat.le_refl _) _⟩
    · skip
      rcases Bool.eq_false_or_eq_true fin with rfl | rfl
      · skip
        rcases Bool.eq_false_or_eq_true rst with rfl | rfl
        · skip
          go_enter Try.func10, Try.ntmps10
          go_wp2_with (first | (go_at_call 28; first | (refine (isPort_f _ _ ?_).mono ?_; assumption; rintro e w' ⟨rfl, rfl⟩) | (refine (isPort_t _ _ ?_).mono ?_; assumption; rintro e w' ⟨rfl, rfl⟩)) | (go_at_call 29; first | (refine (beyond_t _ _ ?_).mono ?_; assumption; rintro e w' ⟨rfl, rfl⟩) | (refine (beyond_f _ _ ?_).mono ?_; assumption; rintro e w' ⟨rfl, rfl⟩)))
          go_ret
          exact ⟨ret_int (H4.out _ (by (try rw [ME.out]); (try rw [AE.out]); unfold frm; simp) rfl).symm, (Below.refl _ _).alloc (Nat.le_refl _) _⟩
        · skip
          rcases Bool.eq_false_or_eq_true ((ak : Int) != 0) with ha | ha
          · have AE : Hid (((ak : Int) != 0) = true) := ha
            rcases Bool.eq_false_or_eq_true ack with rfl | rfl
            · skip
              by_cases hs : 1000 < body.size
              · have hs' : (1000 : Int) < (body.size : Int) := by omega
                go_enter Try.func10, Try.ntmps10
                go_wp2_with (first | (go_at_call 28; first | (refine (isPort_f _ _ ?_).mono ?_; assumption; rintro e w' ⟨rfl, rfl⟩) | (refine (isPort_t _ _ ?_).mono ?_; assumption; rintro e w' ⟨rfl, rfl⟩)) | (go_at_call 29; first | (refine (beyond_t _ _ ?_).mono ?_; assumption; rintro e w' ⟨rfl, rfl⟩) | (refine (beyond_f _ _ ?_).mono ?_; assumption; rintro e w' ⟨rfl, rfl⟩)))
                go_ret
                exact ⟨ret_int (H2.out hs _ (by (try rw [ME.out]); (try rw [AE.out]); unfold frm; simp) rfl).symm, (Below.refl _ _).alloc (Nat.le_refl _) _⟩
              · have hs' : ¬ (1000 : Int) < (body.size : Int) := by omega
                go_enter Try.func10, Try.ntmps10
                go_wp2_with (first | (go_at_call 28; first | (refine (isPort_f _ _ ?_).mono ?_; assumption; rintro e w' ⟨rfl, rfl⟩) | (refine (isPort_t _ _ ?_).mono ?_; assumption; rintro e w' ⟨rfl, rfl⟩)) | (go_at_call 29; first | (refine (beyond_t _ _ ?_).mono ?_; assumption; rintro e w' ⟨rfl, rfl⟩) | (refine (beyond_f _ _ ?_).mono ?_; assumption; rintro e w' ⟨rfl, rfl⟩)))
                go_ret
                exact ⟨ret_int (H0.out hs _ (by (try rw [ME.out]); (try rw [AE.out]); unfold frm; simp) rfl).symm, (Below.refl _ _).alloc (Nat.le_refl _) _⟩
            · skip
              go_enter Try.func10, Try.ntmps10
              go_wp2_with (first | (go_at_call 28; first | (refine (isPort_f _ _ ?_).mono ?_; assumption; rintro e w' ⟨rfl, rfl⟩) | (refine (isPort_t _ _ ?_).mono ?_; assumption; rintro e w' ⟨rfl, rfl⟩)) | (go_at_call 29; first | (refine (beyond_t _ _ ?_).mono ?_; assumption; rintro e w' ⟨rfl, rfl⟩) | (refine (beyond_f _ _ ?_).mono ?_; assumption; rintro e w' ⟨rfl, rfl⟩)))
              go_ret
              exact ⟨ret_int (H4.out _ (by (try rw [ME.out]); (try rw [AE.out]); unfold frm; simp) rfl).symm, (Below.refl _ _).alloc (Nat.le_refl _) _⟩
          · have AE : Hid (((ak : Int) != 0) = false) := ha
            by_cases hs : 1000 < body.size
            · have hs' : (1000 : Int) < (body.size : Int) := by omega
              go_enter Try.func10, Try.ntmps10
              go_wp2_with (first | (go_at_call 28; first | (refine (isPort_f _ _ ?_).mono ?_; assumption; rintro e w' ⟨rfl, rfl⟩) | (refine (isPort_t _ _ ?_).mono ?_; assumption; rintro e w' ⟨rfl, rfl⟩)) | (go_at_call 29; first | (refine (beyond_t _ _ ?_).mono ?_; assumption; rintro e w' ⟨rfl, rfl⟩) | (refine (beyond_f _ _ ?_).mono ?_; assumption; rintro e w' ⟨rfl, rfl⟩)))
              go_ret
              exact ⟨ret_int (H2.out hs _ (by (try rw [ME.out]); (try rw [AE.out]); unfold frm; simp) rfl).symm, (Below.refl _ _).alloc (Nat.le_refl _) _⟩
            · have hs' : ¬ (1000 : Int) < (body.size : Int) := by omega
              go_enter Try.func10, Try.ntmps10
              go_wp2_with (first | (go_at_call 28; first | (refine (isPort_f _ _ ?_).mono ?_; assumption; rintro e w' ⟨rfl, rfl⟩) | (refine (isPort_t _ _ ?_).mono ?_; assumption; rintro e w' ⟨rfl, rfl⟩)) | (go_at_call 29; first | (refine (beyond_t _ _ ?_).mono ?_; assumption; rintro e w' ⟨rfl, rfl⟩) | (refine (beyond_f _ _ ?_).mono ?_; assumption; rintro e w' ⟨rfl, rfl⟩)))
              go_ret
              exact ⟨ret_int (H0.out hs _ (by (try rw [ME.out]); (try rw [AE.out]); unfold frm; simp) rfl).symm, (Below.refl _ _).alloc (Nat.le_refl _) _⟩
      · skip
        rcases Bool.eq_false_or_eq_true rst with rfl | rfl
        · skip
          rcases Bool.eq_false_or_eq_true ((ak : Int) != 0) with ha | ha
          · have AE : Hid (((ak : Int) != 0) = true) := ha
            rcases Bool.eq_false_or_eq_true ack with rfl | rfl
            · skip
              by_cases hs : 1000 < body.size
              · have hs' : (1000 : Int) < (body.size : Int) := by omega
                go_enter Try.func10, Try.ntmps10
                go_wp2_with (first | (go_at_call 28; first | (refine (isPort_f _ _ ?_).mono ?_; assumption; rintro e w' ⟨rfl, rfl⟩) | (refine (isPort_t _ _ ?_).mono ?_; assumption; rintro e w' ⟨rfl, rfl⟩)) | (go_at_call 29; first | (refine (beyond_t _ _ ?_).mono ?_; assumption; rintro e w' ⟨rfl, rfl⟩) | (refine (beyond_f _ _ ?_).mono ?_; assumption; rintro e w' ⟨rfl, rfl⟩)))
                go_ret
                exact ⟨ret_int (H2.out hs _ (by (try rw [ME.out]); (try rw [AE.out]); unfold frm; simp) rfl).symm, (Below.refl _ _).alloc (Nat.le_refl _) _⟩
              · have hs' : ¬ (1000 : Int) < (body.size : Int) := by omega
                go_enter Try.func10, Try.ntmps10
                go_wp2_with (first | (go_at_call 28; first | (refine (isPort_f _ _ ?_).mono ?_; assumption; rintro e w' ⟨rfl, rfl⟩) | (refine (isPort_t _ _ ?_).mono ?_; assumption; rintro e w' ⟨rfl, rfl⟩)) | (go_at_call 29; first | (refine (beyond_t _ _ ?_).mono ?_; assumption; rintro e w' ⟨rfl, rfl⟩) | (refine (beyond_f _ _ ?_).mono ?_; assumption; rintro e w' ⟨rfl, rfl⟩)))
                go_ret
                exact ⟨ret_int (H0.out hs _ (by (try rw [ME.out]); (try rw [AE.out]); unfold frm; simp) rfl).symm, (Below.refl _ _).alloc (Nat.le_refl _) _⟩
            · skip
              go_enter Try.func10, Try.ntmps10
              go_wp2_with (first | (go_at_call 28; first | (refine (isPort_f _ _ ?_).mono ?_; assumption; rintro e w' ⟨rfl, rfl⟩) | (refine (isPort_t _ _ ?_).mono ?_; assumption; rintro e w' ⟨rfl, rfl⟩)) | (go_at_call 29; first | (refine (beyond_t _ _ ?_).mono ?_; assumption; rintro e w' ⟨rfl, rfl⟩) | (refine (beyond_f _ _ ?_).mono ?_; assumption; rintro e w' ⟨rfl, rfl⟩)))
              go_ret
              exact ⟨ret_int (H4.out _ (by (try rw [ME.out]); (try rw [AE.out]); unfold frm; simp) rfl).symm, (Below.refl _ _).alloc (Nat.le_refl _) _⟩
          · have AE : Hid (((ak : Int) != 0) = false) := ha
            by_cases hs : 1000 < body.size
            · have hs' : (1000 : Int) < (body.size : Int) := by omega
              go_enter Try.func10, Try.ntmps10
              go_wp2_with (first | (go_at_call 28; first | (refine (isPort_f _ _ ?_).mono ?_; assumption; rintro e w' ⟨rfl, rfl⟩) | (refine (isPort_t _ _ ?_).mono ?_; assumption; rintro e w' ⟨rfl, rfl⟩)) | (go_at_call 29; first | (refine (beyond_t _ _ ?_).mono ?_; assumption; rintro e w' ⟨rfl, rfl⟩) | (refine (beyond_f _ _ ?_).mono ?_; assumption; rintro e w' ⟨rfl, rfl⟩)))
              go_ret
              exact ⟨ret_int (H2.out hs _ (by (try rw [ME.out]); (try rw [AE.out]); unfold frm; simp) rfl).symm, (Below.refl _ _).alloc (Nat.le_refl _) _⟩
            · have hs' : ¬ (1000 : Int) < (body.size : Int) := by omega
              go_enter Try.func10, Try.ntmps10
              go_wp2_with (first | (go_at_call 28; first | (refine (isPort_f _ _ ?_).mono ?_; assumption; rintro e w' ⟨rfl, rfl⟩) | (refine (isPort_t _ _ ?_).mono ?_; assumption; rintro e w' ⟨rfl, rfl⟩)) | (go_at_call 29; first | (refine (beyond_t _ _ ?_).mono ?_; assumption; rintro e w' ⟨rfl, rfl⟩) | (refine (beyond_f _ _ ?_).mono ?_; assumption; rintro e w' ⟨rfl, rfl⟩)))
              go_ret
              exact ⟨ret_int (H0.out hs _ (by (try rw [ME.out]); (try rw [AE.out]); unfold frm; simp) rfl).symm, (Below.refl _ _).alloc (Nat.le_refl _) _⟩
        · skip
          rcases Bool.eq_false_or_eq_true ((ak : Int) != 0) with ha | ha
          · have AE : Hid (((ak : Int) != 0) = true) := ha
            rcases Bool.eq_false_or_eq_true ack with rfl | rfl
            · skip
              by_cases hs : 1000 < body.size
              · have hs' : (1000 : Int) < (body.size : Int) := by omega
                go_enter Try.func10, Try.ntmps10
                go_wp2_with (first | (go_at_call 28; first | (refine (isPort_f _ _ ?_).mono ?_; assumption; rintro e w' ⟨rfl, rfl⟩) | (refine (isPort_t _ _ ?_).mono ?_; assumption; rintro e w' ⟨rfl, rfl⟩)) | (go_at_call 29; first | (refine (beyond_t _ _ ?_).mono ?_; assumption; rintro e w' ⟨rfl, rfl⟩) | (refine (beyond_f _ _ ?_).mono ?_; assumption; rintro e w' ⟨rfl, rfl⟩)))
                go_ret
                exact ⟨ret_int (H2.out hs _ (by (try rw [ME.out]); (try rw [AE.out]); unfold frm; simp) rfl).symm, (Below.refl _ _).alloc (Nat.le_refl _) _⟩
              · have hs' : ¬ (1000 : Int) < (body.size : Int) := by omega
                go_enter Try.func10, Try.ntmps10
                go_wp2_with (first | (go_at_call 28; first | (refine (isPort_f _ _ ?_).mono ?_; assumption; rintro e w' ⟨rfl, rfl⟩) | (refine (isPort_t _ _ ?_).mono ?_; assumption; rintro e w' ⟨rfl, rfl⟩)) | (go_at_call 29; first | (refine (beyond_t _ _ ?_).mono ?_; assumption; rintro e w' ⟨rfl, rfl⟩) | (refine (beyond_f _ _ ?_).mono ?_; assumption; rintro e w' ⟨rfl, rfl⟩)))
                go_ret
                exact ⟨ret_int (H0.out hs _ (by (try rw [ME.out]); (try rw [AE.out]); unfold frm; simp) rfl).symm, (Below.refl _ _).alloc (Nat.le_refl _) _⟩
            · skip
              go_enter Try.func10, Try.ntmps10
              go_wp2_with (first | (go_at_call 28; first | (refine (isPort_f _ _ ?_).mono ?_; assumption; rintro e w' ⟨rfl, rfl⟩) | (refine (isPort_t _ _ ?_).mono ?_; assumption; rintro e w' ⟨rfl, rfl⟩)) | (go_at_call 29; first | (refine (beyond_t _ _ ?_).mono ?_; assumption; rintro e w' ⟨rfl, rfl⟩) | (refine (beyond_f _ _ ?_).mono ?_; assumption; rintro e w' ⟨rfl, rfl⟩)))
              go_ret
              exact ⟨ret_int (H4.out _ (by (try rw [ME.out]); (try rw [AE.out]); unfold frm; simp) rfl).symm, (Below.refl _ _).alloc (Nat.le_refl _) _⟩
          · have AE : Hid (((ak : Int) != 0) = false) := ha
            by_cases hs : 1000 < body.size
            · have hs' : (1000 : Int) < (body.size : Int) := by omega
              go_enter Try.func10, Try.ntmps10
              go_wp2_with (first | (go_at_call 28; first | (refine (isPort_f _ _ ?_).mono ?_; assumption; rintro e w' ⟨rfl, rfl⟩) | (refine (isPort_t _ _ ?_).mono ?_; assumption; rintro e w' ⟨rfl, rfl⟩)) | (go_at_call 29; first | (refine (beyond_t _ _ ?_).mono ?_; assumption; rintro e w' ⟨rfl, rfl⟩) | (refine (beyond_f _ _ ?_).mono ?_; assumption; rintro e w' ⟨rfl, rfl⟩)))
              go_ret
              exact ⟨ret_int (H2.out hs _ (by (try rw [ME.out]); (try rw [AE.out]); unfold frm; simp) rfl).symm, (Below.refl _ _).alloc (Nat.le_refl _) _⟩
            · have hs' : ¬ (1000 : Int) < (body.size : Int) := by omega
              go_enter Try.func10, Try.ntmps10
              go_wp2_with (first | (go_at_call 28; first | (refine (isPort_f _ _ ?_).mono ?_; assumption; rintro e w' ⟨rfl, rfl⟩) | (refine (isPort_t _ _ ?_).mono ?_; assumption; rintro e w' ⟨rfl, rfl⟩)) | (go_at_call 29; first | (refine (beyond_t _ _ ?_).mono ?_; assumption; rintro e w' ⟨rfl, rfl⟩) | (refine (beyond_f _ _ ?_).mono ?_; assumption; rintro e w' ⟨rfl, rfl⟩)))
              go_ret
              exact ⟨ret_int (H0.out hs _ (by (try rw [ME.out]); (try rw [AE.out]); unfold frm; simp) rfl).symm, (Below.refl _ _).alloc (Nat.le_refl _) _⟩

theorem gchk_any (g : Sg) (w : World) :
    Calls Try.prog 10 #[gv g] w fun e w' => e = .returned (.int .i64 (gchk g)) ∧ Below w.heap.size w w' := by
  by_cases h : badp g.sp ∨ badp g.dp ∨ bad0 g.win ∨ bad0 g.mss
  · exact chk_bad g w h
  · obtain ⟨sa, sp, da, dp, sq, ak, syn, ack, fin, rst, win, mss, body⟩ := g
    exact chk_good sa sp da dp sq ak syn ack fin rst win mss body w (fun x => h (Or.inl x)) (fun x => h (Or.inr (Or.inl x))) (fun x => h (Or.inr (Or.inr (Or.inl x)))) (fun x => h (Or.inr (Or.inr (Or.inr x))))
end Go.Proofs.Ytggoipdmiajckaa
