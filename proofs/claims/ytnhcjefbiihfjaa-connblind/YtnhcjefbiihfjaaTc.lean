/-
  Package tcp: a segment as a plain record; Check, Length (texts of an earlier round, put over).
-/
import Derived.Test.YtnhcjefbiihfjaaBa
namespace Go.Proofs.Ytnhcjefbiihfjaa.Tc
open Go.RowKit
set_option linter.unusedVariables false
set_option linter.unusedSimpArgs false

/-! Sg -/

structure Sg where
  sa : Nat
  sp : Int
  da : Nat
  dp : Int
  sq : Nat
  ak : Nat
  syn : Bool
  ack : Bool
  fin : Bool
  rst : Bool
  win : Int
  mss : Int
  body : ByteArray

/-- The cells of a segment. -/
abbrev gc (g : Sg) : Array Value := #[.int .u32 (g.sa : Int), .int .i64 g.sp, .int .u32 (g.da : Int), .int .i64 g.dp, .int .u32 (g.sq : Int), .int .u32 (g.ak : Int), .bool g.syn, .bool g.ack, .bool g.fin, .bool g.rst, .int .i64 g.win, .int .i64 g.mss, .string g.body]
/-- A segment's value. -/
abbrev gv (g : Sg) : Value := .agg (gc g)
/-- No segment. -/
def gz : Sg := ⟨0, 0, 0, 0, 0, 0, false, false, false, false, 0, 0, ⟨#[]⟩⟩
/-- Not from 1 to 65535. -/
abbrev badp (n : Int) : Prop := n < 1 ∨ 65535 < n
/-- Not from 0 to 65535. -/
abbrev bad0 (n : Int) : Prop := n < 0 ∨ 65535 < n
/-- What can't stand together: an Mss (m) without Syn, two of Syn, Fin, Rst, an Ack (a) without HasAck. -/
def frm (m a syn ack fin rst : Bool) : Bool := (m && !syn) || (syn && (fin || rst)) || (fin && rst) || (a && !ack)
/-- What is wrong with a segment. -/
def gchk (g : Sg) : Int := if badp g.sp ∨ badp g.dp ∨ bad0 g.win ∨ bad0 g.mss then 1 else if frm (g.mss != 0) ((g.ak : Int) != 0) g.syn g.ack g.fin g.rst = true then 4 else if 1000 < g.body.size then 2 else 0

theorem isPort_f (n : Int) (w : World) (h : badp n) :
    Calls Try.prog 53 #[.int .i64 n] w fun e w' => e = .returned (.bool false) ∧ w' = w := by
  unfold badp at h
  by_cases h0 : n < 1
  · have h1 : ¬ 1 ≤ n := by omega
    go_enter Try.func53, Try.ntmps53
    go_wp2
    go_ret
    exact ⟨rfl, rfl⟩
  · have h1 : 1 ≤ n := by omega
    have h2 : ¬ n ≤ 65535 := by omega
    clear h
    go_enter Try.func53, Try.ntmps53
    go_wp2
    go_ret
    exact ⟨rfl, rfl⟩
theorem isPort_t (n : Int) (w : World) (h : ¬ badp n) :
    Calls Try.prog 53 #[.int .i64 n] w fun e w' => e = .returned (.bool true) ∧ w' = w := by
  unfold badp at h
  have h0 : 1 ≤ n := by omega
  have h1 : n ≤ 65535 := by omega
  clear h
  go_enter Try.func53, Try.ntmps53
  go_wp2
  go_ret
  exact ⟨rfl, rfl⟩
theorem beyond_t (n : Int) (w : World) (h : bad0 n) :
    Calls Try.prog 54 #[.int .i64 n, .int .i64 65535] w fun e w' => e = .returned (.bool true) ∧ w' = w := by
  unfold bad0 at h
  by_cases h0 : n < 0
  · go_enter Try.func54, Try.ntmps54
    go_wp2
    go_ret
    exact ⟨rfl, rfl⟩
  · have h1 : 65535 < n := by omega
    clear h
    go_enter Try.func54, Try.ntmps54
    go_wp2
    go_ret
    exact ⟨rfl, rfl⟩
theorem beyond_f (n : Int) (w : World) (h : ¬ bad0 n) :
    Calls Try.prog 54 #[.int .i64 n, .int .i64 65535] w fun e w' => e = .returned (.bool false) ∧ w' = w := by
  unfold bad0 at h
  have h0 : ¬ n < 0 := by omega
  have h1 : ¬ 65535 < n := by omega
  clear h
  go_enter Try.func54, Try.ntmps54
  go_wp2
  go_ret
  exact ⟨rfl, rfl⟩
theorem gchk_ok {g : Sg} (h : gchk g = 0) : 1 ≤ g.sp ∧ g.sp ≤ 65535 ∧ 1 ≤ g.dp ∧ g.dp ≤ 65535 ∧ 0 ≤ g.win ∧ g.win ≤ 65535 ∧ 0 ≤ g.mss ∧ g.mss ≤ 65535 ∧ frm (g.mss != 0) ((g.ak : Int) != 0) g.syn g.ack g.fin g.rst = false ∧ g.body.size ≤ 1000 := by
  unfold gchk at h
  split at h
  · cases h
  · rename_i hb
    split at h
    · cases h
    · rename_i hf
      split at h
      · cases h
      · unfold badp bad0 at hb
        exact ⟨by omega, by omega, by omega, by omega, by omega, by omega, by omega, by omega, by simpa using hf, by omega⟩

/-- A block that holds a segment. -/
def GB (b : Nat) (g : Sg) (W : World) : Prop := W.heap[b]? = some (.cells (gc g) 35 (0, 0))
theorem GB.keep {b : Nat} {g : Sg} {W W1 : World} (h : GB b g W) (hb : Below W.heap.size W W1) : GB b g W1 := (hb.block _ (lt_of_heap h)).trans h
theorem GB.new (w : World) (g : Sg) : GB w.heap.size g (w.alloc (.cells (gc g) 35)) := heap_alloc_new _ _
theorem GB.lt {b : Nat} {g : Sg} {W : World} (h : GB b g W) : b < W.heap.size := lt_of_heap h
theorem GB.alloc {b : Nat} {g : Sg} {W : World} (h : GB b g W) (o : Obj) : GB b g (W.alloc o) := (Below.heap_alloc _ _ _ h.lt).trans h
theorem GB.drew {b : Nat} {g : Sg} {W : World} (h : GB b g W) : GB b g W.drew := h
theorem GB.c0 {b : Nat} {g : Sg} {W : World} (h : GB b g W) : W.cell? ⟨b, 0, none⟩ = some (.int .u32 (g.sa : Int)) := Joins.cell_of_block h 0
theorem GB.c1 {b : Nat} {g : Sg} {W : World} (h : GB b g W) : W.cell? ⟨b, 1, none⟩ = some (.int .i64 g.sp) := Joins.cell_of_block h 1
theorem GB.c2 {b : Nat} {g : Sg} {W : World} (h : GB b g W) : W.cell? ⟨b, 2, none⟩ = some (.int .u32 (g.da : Int)) := Joins.cell_of_block h 2
theorem GB.c3 {b : Nat} {g : Sg} {W : World} (h : GB b g W) : W.cell? ⟨b, 3, none⟩ = some (.int .i64 g.dp) := Joins.cell_of_block h 3
theorem GB.c4 {b : Nat} {g : Sg} {W : World} (h : GB b g W) : W.cell? ⟨b, 4, none⟩ = some (.int .u32 (g.sq : Int)) := Joins.cell_of_block h 4
theorem GB.c5 {b : Nat} {g : Sg} {W : World} (h : GB b g W) : W.cell? ⟨b, 5, none⟩ = some (.int .u32 (g.ak : Int)) := Joins.cell_of_block h 5
theorem GB.c6 {b : Nat} {g : Sg} {W : World} (h : GB b g W) : W.cell? ⟨b, 6, none⟩ = some (.bool g.syn) := Joins.cell_of_block h 6
theorem GB.c7 {b : Nat} {g : Sg} {W : World} (h : GB b g W) : W.cell? ⟨b, 7, none⟩ = some (.bool g.ack) := Joins.cell_of_block h 7
theorem GB.c8 {b : Nat} {g : Sg} {W : World} (h : GB b g W) : W.cell? ⟨b, 8, none⟩ = some (.bool g.fin) := Joins.cell_of_block h 8
theorem GB.c9 {b : Nat} {g : Sg} {W : World} (h : GB b g W) : W.cell? ⟨b, 9, none⟩ = some (.bool g.rst) := Joins.cell_of_block h 9
theorem GB.c10 {b : Nat} {g : Sg} {W : World} (h : GB b g W) : W.cell? ⟨b, 10, none⟩ = some (.int .i64 g.win) := Joins.cell_of_block h 10
theorem GB.c11 {b : Nat} {g : Sg} {W : World} (h : GB b g W) : W.cell? ⟨b, 11, none⟩ = some (.int .i64 g.mss) := Joins.cell_of_block h 11
theorem GB.c12 {b : Nat} {g : Sg} {W : World} (h : GB b g W) : W.cell? ⟨b, 12, none⟩ = some (.string g.body) := Joins.cell_of_block h 12

/-! Ck -/

theorem gchk_1 {g : Sg} (h : badp g.sp ∨ badp g.dp ∨ bad0 g.win ∨ bad0 g.mss) : gchk g = 1 := by unfold gchk; rw [if_pos h]
theorem gchk_4 {g : Sg} (h1 : ¬ badp g.sp) (h2 : ¬ badp g.dp) (h3 : ¬ bad0 g.win) (h4 : ¬ bad0 g.mss) (h : frm (g.mss != 0) ((g.ak : Int) != 0) g.syn g.ack g.fin g.rst = true) : gchk g = 4 := by
  unfold gchk; rw [if_neg (fun x => x.elim h1 (fun x => x.elim h2 (fun x => x.elim h3 h4))), if_pos h]
theorem gchk_2 {g : Sg} (h1 : ¬ badp g.sp) (h2 : ¬ badp g.dp) (h3 : ¬ bad0 g.win) (h4 : ¬ bad0 g.mss) (h : frm (g.mss != 0) ((g.ak : Int) != 0) g.syn g.ack g.fin g.rst = false) (hs : 1000 < g.body.size) : gchk g = 2 := by
  unfold gchk; rw [if_neg (fun x => x.elim h1 (fun x => x.elim h2 (fun x => x.elim h3 h4))), if_neg (by rw [h]; decide), if_pos hs]
theorem gchk_0 {g : Sg} (h1 : ¬ badp g.sp) (h2 : ¬ badp g.dp) (h3 : ¬ bad0 g.win) (h4 : ¬ bad0 g.mss) (h : frm (g.mss != 0) ((g.ak : Int) != 0) g.syn g.ack g.fin g.rst = false) (hs : ¬ 1000 < g.body.size) : gchk g = 0 := by
  unfold gchk; rw [if_neg (fun x => x.elim h1 (fun x => x.elim h2 (fun x => x.elim h3 h4))), if_neg (by rw [h]; decide), if_neg hs]

theorem chk_bad (g : Sg) (w : World) (h : badp g.sp ∨ badp g.dp ∨ bad0 g.win ∨ bad0 g.mss) :
    Calls Try.prog 29 #[gv g] w fun e w' => e = .returned (.int .i64 (gchk g)) ∧ Below w.heap.size w w' := by
  have HC : Hid (gchk g = 1) := gchk_1 h
  by_cases h0 : badp g.sp
  · clear h
    go_enter Try.func29, Try.ntmps29
    go_wp2_with (first | (go_at_call 53; first | (refine (isPort_f _ _ ?_).mono ?_; assumption; rintro e w' ⟨rfl, rfl⟩) | (refine (isPort_t _ _ ?_).mono ?_; assumption; rintro e w' ⟨rfl, rfl⟩)) | (go_at_call 54; first | (refine (beyond_t _ _ ?_).mono ?_; assumption; rintro e w' ⟨rfl, rfl⟩) | (refine (beyond_f _ _ ?_).mono ?_; assumption; rintro e w' ⟨rfl, rfl⟩)))
    go_ret
    exact ⟨ret_int (HC.out).symm, (Below.refl _ _).alloc (Nat.le_refl _) _⟩
  by_cases h1 : badp g.dp
  · clear h
    go_enter Try.func29, Try.ntmps29
    go_wp2_with (first | (go_at_call 53; first | (refine (isPort_f _ _ ?_).mono ?_; assumption; rintro e w' ⟨rfl, rfl⟩) | (refine (isPort_t _ _ ?_).mono ?_; assumption; rintro e w' ⟨rfl, rfl⟩)) | (go_at_call 54; first | (refine (beyond_t _ _ ?_).mono ?_; assumption; rintro e w' ⟨rfl, rfl⟩) | (refine (beyond_f _ _ ?_).mono ?_; assumption; rintro e w' ⟨rfl, rfl⟩)))
    go_ret
    exact ⟨ret_int (HC.out).symm, (Below.refl _ _).alloc (Nat.le_refl _) _⟩
  by_cases h2 : bad0 g.win
  · clear h
    go_enter Try.func29, Try.ntmps29
    go_wp2_with (first | (go_at_call 53; first | (refine (isPort_f _ _ ?_).mono ?_; assumption; rintro e w' ⟨rfl, rfl⟩) | (refine (isPort_t _ _ ?_).mono ?_; assumption; rintro e w' ⟨rfl, rfl⟩)) | (go_at_call 54; first | (refine (beyond_t _ _ ?_).mono ?_; assumption; rintro e w' ⟨rfl, rfl⟩) | (refine (beyond_f _ _ ?_).mono ?_; assumption; rintro e w' ⟨rfl, rfl⟩)))
    go_ret
    exact ⟨ret_int (HC.out).symm, (Below.refl _ _).alloc (Nat.le_refl _) _⟩
  have h3 : bad0 g.mss := by
    rcases h with h | h | h | h
    · exact absurd h h0
    · exact absurd h h1
    · exact absurd h h2
    · exact h
  clear h
  go_enter Try.func29, Try.ntmps29
  go_wp2_with (first | (go_at_call 53; first | (refine (isPort_f _ _ ?_).mono ?_; assumption; rintro e w' ⟨rfl, rfl⟩) | (refine (isPort_t _ _ ?_).mono ?_; assumption; rintro e w' ⟨rfl, rfl⟩)) | (go_at_call 54; first | (refine (beyond_t _ _ ?_).mono ?_; assumption; rintro e w' ⟨rfl, rfl⟩) | (refine (beyond_f _ _ ?_).mono ?_; assumption; rintro e w' ⟨rfl, rfl⟩)))
  go_ret
  exact ⟨ret_int (HC.out).symm, (Below.refl _ _).alloc (Nat.le_refl _) _⟩

set_option maxHeartbeats 8000000 in
theorem chk_good (sa : Nat) (sp : Int) (da : Nat) (dp : Int) (sq ak : Nat) (syn ack fin rst : Bool) (win mss : Int) (body : ByteArray) (w : World) (h0 : ¬ badp sp) (h1 : ¬ badp dp) (h2 : ¬ bad0 win) (h3 : ¬ bad0 mss) :
    Calls Try.prog 29 #[gv ⟨sa, sp, da, dp, sq, ak, syn, ack, fin, rst, win, mss, body⟩] w fun e w' => e = .returned (.int .i64 (gchk ⟨sa, sp, da, dp, sq, ak, syn, ack, fin, rst, win, mss, body⟩)) ∧ Below w.heap.size w w' := by
  have H4 : Hid (∀ q, frm (mss != 0) ((ak : Int) != 0) syn ack fin rst = q → q = true → gchk ⟨sa, sp, da, dp, sq, ak, syn, ack, fin, rst, win, mss, body⟩ = 4) := fun q e1 e2 => gchk_4 (g := ⟨sa, sp, da, dp, sq, ak, syn, ack, fin, rst, win, mss, body⟩) h0 h1 h2 h3 (e1.trans e2)
  have H2 : Hid (1000 < body.size → ∀ q, frm (mss != 0) ((ak : Int) != 0) syn ack fin rst = q → q = false → gchk ⟨sa, sp, da, dp, sq, ak, syn, ack, fin, rst, win, mss, body⟩ = 2) := fun hs q e1 e2 => gchk_2 (g := ⟨sa, sp, da, dp, sq, ak, syn, ack, fin, rst, win, mss, body⟩) h0 h1 h2 h3 (e1.trans e2) hs
  have H0 : Hid (¬ 1000 < body.size → ∀ q, frm (mss != 0) ((ak : Int) != 0) syn ack fin rst = q → q = false → gchk ⟨sa, sp, da, dp, sq, ak, syn, ack, fin, rst, win, mss, body⟩ = 0) := fun hs q e1 e2 => gchk_0 (g := ⟨sa, sp, da, dp, sq, ak, syn, ack, fin, rst, win, mss, body⟩) h0 h1 h2 h3 (e1.trans e2) hs
  generalize hG : gchk ⟨sa, sp, da, dp, sq, ak, syn, ack, fin, rst, win, mss, body⟩ = G at *
  clear hG
  rcases Bool.eq_false_or_eq_true (mss != 0) with hm | hm
  · have ME : Hid ((mss != 0) = true) := hm
    rcases Bool.eq_false_or_eq_true syn with rfl | rfl
    · skip
      rcases Bool.eq_false_or_eq_true fin with rfl | rfl
      · skip
        go_enter Try.func29, Try.ntmps29
        go_wp2_with (first | (go_at_call 53; first | (refine (isPort_f _ _ ?_).mono ?_; assumption; rintro e w' ⟨rfl, rfl⟩) | (refine (isPort_t _ _ ?_).mono ?_; assumption; rintro e w' ⟨rfl, rfl⟩)) | (go_at_call 54; first | (refine (beyond_t _ _ ?_).mono ?_; assumption; rintro e w' ⟨rfl, rfl⟩) | (refine (beyond_f _ _ ?_).mono ?_; assumption; rintro e w' ⟨rfl, rfl⟩)))
        go_ret
        exact ⟨ret_int (H4.out _ (by (try rw [ME.out]); (try rw [AE.out]); unfold frm; simp) rfl).symm, (Below.refl _ _).alloc (Nat.le_refl _) _⟩
      · skip
        rcases Bool.eq_false_or_eq_true rst with rfl | rfl
        · skip
          go_enter Try.func29, Try.ntmps29
          go_wp2_with (first | (go_at_call 53; first | (refine (isPort_f _ _ ?_).mono ?_; assumption; rintro e w' ⟨rfl, rfl⟩) | (refine (isPort_t _ _ ?_).mono ?_; assumption; rintro e w' ⟨rfl, rfl⟩)) | (go_at_call 54; first | (refine (beyond_t _ _ ?_).mono ?_; assumption; rintro e w' ⟨rfl, rfl⟩) | (refine (beyond_f _ _ ?_).mono ?_; assumption; rintro e w' ⟨rfl, rfl⟩)))
          go_ret
          exact ⟨ret_int (H4.out _ (by (try rw [ME.out]); (try rw [AE.out]); unfold frm; simp) rfl).symm, (Below.refl _ _).alloc (Nat.le_refl _) _⟩
        · skip
          rcases Bool.eq_false_or_eq_true ((ak : Int) != 0) with ha | ha
          · have AE : Hid (((ak : Int) != 0) = true) := ha
            rcases Bool.eq_false_or_eq_true ack with rfl | rfl
            · skip
              by_cases hs : 1000 < body.size
              · have hs' : (1000 : Int) < (body.size : Int) := by omega
                go_enter Try.func29, Try.ntmps29
                go_wp2_with (first | (go_at_call 53; first | (refine (isPort_f _ _ ?_).mono ?_; assumption; rintro e w' ⟨rfl, rfl⟩) | (refine (isPort_t _ _ ?_).mono ?_; assumption; rintro e w' ⟨rfl, rfl⟩)) | (go_at_call 54; first | (refine (beyond_t _ _ ?_).mono ?_; assumption; rintro e w' ⟨rfl, rfl⟩) | (refine (beyond_f _ _ ?_).mono ?_; assumption; rintro e w' ⟨rfl, rfl⟩)))
                go_ret
                exact ⟨ret_int (H2.out hs _ (by (try rw [ME.out]); (try rw [AE.out]); unfold frm; simp) rfl).symm, (Below.refl _ _).alloc (Nat.le_refl _) _⟩
              · have hs' : ¬ (1000 : Int) < (body.size : Int) := by omega
                go_enter Try.func29, Try.ntmps29
                go_wp2_with (first | (go_at_call 53; first | (refine (isPort_f _ _ ?_).mono ?_; assumption; rintro e w' ⟨rfl, rfl⟩) | (refine (isPort_t _ _ ?_).mono ?_; assumption; rintro e w' ⟨rfl, rfl⟩)) | (go_at_call 54; first | (refine (beyond_t _ _ ?_).mono ?_; assumption; rintro e w' ⟨rfl, rfl⟩) | (refine (beyond_f _ _ ?_).mono ?_; assumption; rintro e w' ⟨rfl, rfl⟩)))
                go_ret
                exact ⟨ret_int (H0.out hs _ (by (try rw [ME.out]); (try rw [AE.out]); unfold frm; simp) rfl).symm, (Below.refl _ _).alloc (Nat.le_refl _) _⟩
            · skip
              go_enter Try.func29, Try.ntmps29
              go_wp2_with (first | (go_at_call 53; first | (refine (isPort_f _ _ ?_).mono ?_; assumption; rintro e w' ⟨rfl, rfl⟩) | (refine (isPort_t _ _ ?_).mono ?_; assumption; rintro e w' ⟨rfl, rfl⟩)) | (go_at_call 54; first | (refine (beyond_t _ _ ?_).mono ?_; assumption; rintro e w' ⟨rfl, rfl⟩) | (refine (beyond_f _ _ ?_).mono ?_; assumption; rintro e w' ⟨rfl, rfl⟩)))
              go_ret
              exact ⟨ret_int (H4.out _ (by (try rw [ME.out]); (try rw [AE.out]); unfold frm; simp) rfl).symm, (Below.refl _ _).alloc (Nat.le_refl _) _⟩
          · have AE : Hid (((ak : Int) != 0) = false) := ha
            by_cases hs : 1000 < body.size
            · have hs' : (1000 : Int) < (body.size : Int) := by omega
              go_enter Try.func29, Try.ntmps29
              go_wp2_with (first | (go_at_call 53; first | (refine (isPort_f _ _ ?_).mono ?_; assumption; rintro e w' ⟨rfl, rfl⟩) | (refine (isPort_t _ _ ?_).mono ?_; assumption; rintro e w' ⟨rfl, rfl⟩)) | (go_at_call 54; first | (refine (beyond_t _ _ ?_).mono ?_; assumption; rintro e w' ⟨rfl, rfl⟩) | (refine (beyond_f _ _ ?_).mono ?_; assumption; rintro e w' ⟨rfl, rfl⟩)))
              go_ret
              exact ⟨ret_int (H2.out hs _ (by (try rw [ME.out]); (try rw [AE.out]); unfold frm; simp) rfl).symm, (Below.refl _ _).alloc (Nat.le_refl _) _⟩
            · have hs' : ¬ (1000 : Int) < (body.size : Int) := by omega
              go_enter Try.func29, Try.ntmps29
              go_wp2_with (first | (go_at_call 53; first | (refine (isPort_f _ _ ?_).mono ?_; assumption; rintro e w' ⟨rfl, rfl⟩) | (refine (isPort_t _ _ ?_).mono ?_; assumption; rintro e w' ⟨rfl, rfl⟩)) | (go_at_call 54; first | (refine (beyond_t _ _ ?_).mono ?_; assumption; rintro e w' ⟨rfl, rfl⟩) | (refine (beyond_f _ _ ?_).mono ?_; assumption; rintro e w' ⟨rfl, rfl⟩)))
              go_ret
              exact ⟨ret_int (H0.out hs _ (by (try rw [ME.out]); (try rw [AE.out]); unfold frm; simp) rfl).symm, (Below.refl _ _).alloc (Nat.le_refl _) _⟩
    · skip
      go_enter Try.func29, Try.ntmps29
      go_wp2_with (first | (go_at_call 53; first | (refine (isPort_f _ _ ?_).mono ?_; assumption; rintro e w' ⟨rfl, rfl⟩) | (refine (isPort_t _ _ ?_).mono ?_; assumption; rintro e w' ⟨rfl, rfl⟩)) | (go_at_call 54; first | (refine (beyond_t _ _ ?_).mono ?_; assumption; rintro e w' ⟨rfl, rfl⟩) | (refine (beyond_f _ _ ?_).mono ?_; assumption; rintro e w' ⟨rfl, rfl⟩)))
      go_ret
      exact ⟨ret_int (H4.out _ (by (try rw [ME.out]); (try rw [AE.out]); unfold frm; simp) rfl).symm, (Below.refl _ _).alloc (Nat.le_refl _) _⟩
  · have ME : Hid ((mss != 0) = false) := hm
    rcases Bool.eq_false_or_eq_true syn with rfl | rfl
    · skip
      rcases Bool.eq_false_or_eq_true fin with rfl | rfl
      · skip
        go_enter Try.func29, Try.ntmps29
        go_wp2_with (first | (go_at_call 53; first | (refine (isPort_f _ _ ?_).mono ?_; assumption; rintro e w' ⟨rfl, rfl⟩) | (refine (isPort_t _ _ ?_).mono ?_; assumption; rintro e w' ⟨rfl, rfl⟩)) | (go_at_call 54; first | (refine (beyond_t _ _ ?_).mono ?_; assumption; rintro e w' ⟨rfl, rfl⟩) | (refine (beyond_f _ _ ?_).mono ?_; assumption; rintro e w' ⟨rfl, rfl⟩)))
        go_ret
        exact ⟨ret_int (H4.out _ (by (try rw [ME.out]); (try rw [AE.out]); unfold frm; simp) rfl).symm, (Below.refl _ _).alloc (Nat.le_refl _) _⟩
      · skip
        rcases Bool.eq_false_or_eq_true rst with rfl | rfl
        · skip
          go_enter Try.func29, Try.ntmps29
          go_wp2_with (first | (go_at_call 53; first | (refine (isPort_f _ _ ?_).mono ?_; assumption; rintro e w' ⟨rfl, rfl⟩) | (refine (isPort_t _ _ ?_).mono ?_; assumption; rintro e w' ⟨rfl, rfl⟩)) | (go_at_call 54; first | (refine (beyond_t _ _ ?_).mono ?_; assumption; rintro e w' ⟨rfl, rfl⟩) | (refine (beyond_f _ _ ?_).mono ?_; assumption; rintro e w' ⟨rfl, rfl⟩)))
          go_ret
          exact ⟨ret_int (H4.out _ (by (try rw [ME.out]); (try rw [AE.out]); unfold frm; simp) rfl).symm, (Below.refl _ _).alloc (Nat.le_refl _) _⟩
        · skip
          rcases Bool.eq_false_or_eq_true ((ak : Int) != 0) with ha | ha
          · have AE : Hid (((ak : Int) != 0) = true) := ha
            rcases Bool.eq_false_or_eq_true ack with rfl | rfl
            · skip
              by_cases hs : 1000 < body.size
              · have hs' : (1000 : Int) < (body.size : Int) := by omega
                go_enter Try.func29, Try.ntmps29
                go_wp2_with (first | (go_at_call 53; first | (refine (isPort_f _ _ ?_).mono ?_; assumption; rintro e w' ⟨rfl, rfl⟩) | (refine (isPort_t _ _ ?_).mono ?_; assumption; rintro e w' ⟨rfl, rfl⟩)) | (go_at_call 54; first | (refine (beyond_t _ _ ?_).mono ?_; assumption; rintro e w' ⟨rfl, rfl⟩) | (refine (beyond_f _ _ ?_).mono ?_; assumption; rintro e w' ⟨rfl, rfl⟩)))
                go_ret
                exact ⟨ret_int (H2.out hs _ (by (try rw [ME.out]); (try rw [AE.out]); unfold frm; simp) rfl).symm, (Below.refl _ _).alloc (Nat.le_refl _) _⟩
              · have hs' : ¬ (1000 : Int) < (body.size : Int) := by omega
                go_enter Try.func29, Try.ntmps29
                go_wp2_with (first | (go_at_call 53; first | (refine (isPort_f _ _ ?_).mono ?_; assumption; rintro e w' ⟨rfl, rfl⟩) | (refine (isPort_t _ _ ?_).mono ?_; assumption; rintro e w' ⟨rfl, rfl⟩)) | (go_at_call 54; first | (refine (beyond_t _ _ ?_).mono ?_; assumption; rintro e w' ⟨rfl, rfl⟩) | (refine (beyond_f _ _ ?_).mono ?_; assumption; rintro e w' ⟨rfl, rfl⟩)))
                go_ret
                exact ⟨ret_int (H0.out hs _ (by (try rw [ME.out]); (try rw [AE.out]); unfold frm; simp) rfl).symm, (Below.refl _ _).alloc (Nat.le_refl _) _⟩
            · skip
              go_enter Try.func29, Try.ntmps29
              go_wp2_with (first | (go_at_call 53; first | (refine (isPort_f _ _ ?_).mono ?_; assumption; rintro e w' ⟨rfl, rfl⟩) | (refine (isPort_t _ _ ?_).mono ?_; assumption; rintro e w' ⟨rfl, rfl⟩)) | (go_at_call 54; first | (refine (beyond_t _ _ ?_).mono ?_; assumption; rintro e w' ⟨rfl, rfl⟩) | (refine (beyond_f _ _ ?_).mono ?_; assumption; rintro e w' ⟨rfl, rfl⟩)))
              go_ret
              exact ⟨ret_int (H4.out _ (by (try rw [ME.out]); (try rw [AE.out]); unfold frm; simp) rfl).symm, (Below.refl _ _).alloc (Nat.le_refl _) _⟩
          · have AE : Hid (((ak : Int) != 0) = false) := ha
            by_cases hs : 1000 < body.size
            · have hs' : (1000 : Int) < (body.size : Int) := by omega
              go_enter Try.func29, Try.ntmps29
              go_wp2_with (first | (go_at_call 53; first | (refine (isPort_f _ _ ?_).mono ?_; assumption; rintro e w' ⟨rfl, rfl⟩) | (refine (isPort_t _ _ ?_).mono ?_; assumption; rintro e w' ⟨rfl, rfl⟩)) | (go_at_call 54; first | (refine (beyond_t _ _ ?_).mono ?_; assumption; rintro e w' ⟨rfl, rfl⟩) | (refine (beyond_f _ _ ?_).mono ?_; assumption; rintro e w' ⟨rfl, rfl⟩)))
              go_ret
              exact ⟨ret_int (H2.out hs _ (by (try rw [ME.out]); (try rw [AE.out]); unfold frm; simp) rfl).symm, (Below.refl _ _).alloc (Nat.le_refl _) _⟩
            · have hs' : ¬ (1000 : Int) < (body.size : Int) := by omega
              go_enter Try.func29, Try.ntmps29
              go_wp2_with (first | (go_at_call 53; first | (refine (isPort_f _ _ ?_).mono ?_; assumption; rintro e w' ⟨rfl, rfl⟩) | (refine (isPort_t _ _ ?_).mono ?_; assumption; rintro e w' ⟨rfl, rfl⟩)) | (go_at_call 54; first | (refine (beyond_t _ _ ?_).mono ?_; assumption; rintro e w' ⟨rfl, rfl⟩) | (refine (beyond_f _ _ ?_).mono ?_; assumption; rintro e w' ⟨rfl, rfl⟩)))
              go_ret
              exact ⟨ret_int (H0.out hs _ (by (try rw [ME.out]); (try rw [AE.out]); unfold frm; simp) rfl).symm, (Below.refl _ _).alloc (Nat.le_refl _) _⟩
    · skip
      rcases Bool.eq_false_or_eq_true fin with rfl | rfl
      · skip
        rcases Bool.eq_false_or_eq_true rst with rfl | rfl
        · skip
          go_enter Try.func29, Try.ntmps29
          go_wp2_with (first | (go_at_call 53; first | (refine (isPort_f _ _ ?_).mono ?_; assumption; rintro e w' ⟨rfl, rfl⟩) | (refine (isPort_t _ _ ?_).mono ?_; assumption; rintro e w' ⟨rfl, rfl⟩)) | (go_at_call 54; first | (refine (beyond_t _ _ ?_).mono ?_; assumption; rintro e w' ⟨rfl, rfl⟩) | (refine (beyond_f _ _ ?_).mono ?_; assumption; rintro e w' ⟨rfl, rfl⟩)))
          go_ret
          exact ⟨ret_int (H4.out _ (by (try rw [ME.out]); (try rw [AE.out]); unfold frm; simp) rfl).symm, (Below.refl _ _).alloc (Nat.le_refl _) _⟩
        · skip
          rcases Bool.eq_false_or_eq_true ((ak : Int) != 0) with ha | ha
          · have AE : Hid (((ak : Int) != 0) = true) := ha
            rcases Bool.eq_false_or_eq_true ack with rfl | rfl
            · skip
              by_cases hs : 1000 < body.size
              · have hs' : (1000 : Int) < (body.size : Int) := by omega
                go_enter Try.func29, Try.ntmps29
                go_wp2_with (first | (go_at_call 53; first | (refine (isPort_f _ _ ?_).mono ?_; assumption; rintro e w' ⟨rfl, rfl⟩) | (refine (isPort_t _ _ ?_).mono ?_; assumption; rintro e w' ⟨rfl, rfl⟩)) | (go_at_call 54; first | (refine (beyond_t _ _ ?_).mono ?_; assumption; rintro e w' ⟨rfl, rfl⟩) | (refine (beyond_f _ _ ?_).mono ?_; assumption; rintro e w' ⟨rfl, rfl⟩)))
                go_ret
                exact ⟨ret_int (H2.out hs _ (by (try rw [ME.out]); (try rw [AE.out]); unfold frm; simp) rfl).symm, (Below.refl _ _).alloc (Nat.le_refl _) _⟩
              · have hs' : ¬ (1000 : Int) < (body.size : Int) := by omega
                go_enter Try.func29, Try.ntmps29
                go_wp2_with (first | (go_at_call 53; first | (refine (isPort_f _ _ ?_).mono ?_; assumption; rintro e w' ⟨rfl, rfl⟩) | (refine (isPort_t _ _ ?_).mono ?_; assumption; rintro e w' ⟨rfl, rfl⟩)) | (go_at_call 54; first | (refine (beyond_t _ _ ?_).mono ?_; assumption; rintro e w' ⟨rfl, rfl⟩) | (refine (beyond_f _ _ ?_).mono ?_; assumption; rintro e w' ⟨rfl, rfl⟩)))
                go_ret
                exact ⟨ret_int (H0.out hs _ (by (try rw [ME.out]); (try rw [AE.out]); unfold frm; simp) rfl).symm, (Below.refl _ _).alloc (Nat.le_refl _) _⟩
            · skip
              go_enter Try.func29, Try.ntmps29
              go_wp2_with (first | (go_at_call 53; first | (refine (isPort_f _ _ ?_).mono ?_; assumption; rintro e w' ⟨rfl, rfl⟩) | (refine (isPort_t _ _ ?_).mono ?_; assumption; rintro e w' ⟨rfl, rfl⟩)) | (go_at_call 54; first | (refine (beyond_t _ _ ?_).mono ?_; assumption; rintro e w' ⟨rfl, rfl⟩) | (refine (beyond_f _ _ ?_).mono ?_; assumption; rintro e w' ⟨rfl, rfl⟩)))
              go_ret
              exact ⟨ret_int (H4.out _ (by (try rw [ME.out]); (try rw [AE.out]); unfold frm; simp) rfl).symm, (Below.refl _ _).alloc (Nat.le_refl _) _⟩
          · have AE : Hid (((ak : Int) != 0) = false) := ha
            by_cases hs : 1000 < body.size
            · have hs' : (1000 : Int) < (body.size : Int) := by omega
              go_enter Try.func29, Try.ntmps29
              go_wp2_with (first | (go_at_call 53; first | (refine (isPort_f _ _ ?_).mono ?_; assumption; rintro e w' ⟨rfl, rfl⟩) | (refine (isPort_t _ _ ?_).mono ?_; assumption; rintro e w' ⟨rfl, rfl⟩)) | (go_at_call 54; first | (refine (beyond_t _ _ ?_).mono ?_; assumption; rintro e w' ⟨rfl, rfl⟩) | (refine (beyond_f _ _ ?_).mono ?_; assumption; rintro e w' ⟨rfl, rfl⟩)))
              go_ret
              exact ⟨ret_int (H2.out hs _ (by (try rw [ME.out]); (try rw [AE.out]); unfold frm; simp) rfl).symm, (Below.refl _ _).alloc (Nat.le_refl _) _⟩
            · have hs' : ¬ (1000 : Int) < (body.size : Int) := by omega
              go_enter Try.func29, Try.ntmps29
              go_wp2_with (first | (go_at_call 53; first | (refine (isPort_f _ _ ?_).mono ?_; assumption; rintro e w' ⟨rfl, rfl⟩) | (refine (isPort_t _ _ ?_).mono ?_; assumption; rintro e w' ⟨rfl, rfl⟩)) | (go_at_call 54; first | (refine (beyond_t _ _ ?_).mono ?_; assumption; rintro e w' ⟨rfl, rfl⟩) | (refine (beyond_f _ _ ?_).mono ?_; assumption; rintro e w' ⟨rfl, rfl⟩)))
              go_ret
              exact ⟨ret_int (H0.out hs _ (by (try rw [ME.out]); (try rw [AE.out]); unfold frm; simp) rfl).symm, (Below.refl _ _).alloc (Nat.le_refl _) _⟩
      · skip
        rcases Bool.eq_false_or_eq_true rst with rfl | rfl
        · skip
          rcases Bool.eq_false_or_eq_true ((ak : Int) != 0) with ha | ha
          · have AE : Hid (((ak : Int) != 0) = true) := ha
            rcases Bool.eq_false_or_eq_true ack with rfl | rfl
            · skip
              by_cases hs : 1000 < body.size
              · have hs' : (1000 : Int) < (body.size : Int) := by omega
                go_enter Try.func29, Try.ntmps29
                go_wp2_with (first | (go_at_call 53; first | (refine (isPort_f _ _ ?_).mono ?_; assumption; rintro e w' ⟨rfl, rfl⟩) | (refine (isPort_t _ _ ?_).mono ?_; assumption; rintro e w' ⟨rfl, rfl⟩)) | (go_at_call 54; first | (refine (beyond_t _ _ ?_).mono ?_; assumption; rintro e w' ⟨rfl, rfl⟩) | (refine (beyond_f _ _ ?_).mono ?_; assumption; rintro e w' ⟨rfl, rfl⟩)))
                go_ret
                exact ⟨ret_int (H2.out hs _ (by (try rw [ME.out]); (try rw [AE.out]); unfold frm; simp) rfl).symm, (Below.refl _ _).alloc (Nat.le_refl _) _⟩
              · have hs' : ¬ (1000 : Int) < (body.size : Int) := by omega
                go_enter Try.func29, Try.ntmps29
                go_wp2_with (first | (go_at_call 53; first | (refine (isPort_f _ _ ?_).mono ?_; assumption; rintro e w' ⟨rfl, rfl⟩) | (refine (isPort_t _ _ ?_).mono ?_; assumption; rintro e w' ⟨rfl, rfl⟩)) | (go_at_call 54; first | (refine (beyond_t _ _ ?_).mono ?_; assumption; rintro e w' ⟨rfl, rfl⟩) | (refine (beyond_f _ _ ?_).mono ?_; assumption; rintro e w' ⟨rfl, rfl⟩)))
                go_ret
                exact ⟨ret_int (H0.out hs _ (by (try rw [ME.out]); (try rw [AE.out]); unfold frm; simp) rfl).symm, (Below.refl _ _).alloc (Nat.le_refl _) _⟩
            · skip
              go_enter Try.func29, Try.ntmps29
              go_wp2_with (first | (go_at_call 53; first | (refine (isPort_f _ _ ?_).mono ?_; assumption; rintro e w' ⟨rfl, rfl⟩) | (refine (isPort_t _ _ ?_).mono ?_; assumption; rintro e w' ⟨rfl, rfl⟩)) | (go_at_call 54; first | (refine (beyond_t _ _ ?_).mono ?_; assumption; rintro e w' ⟨rfl, rfl⟩) | (refine (beyond_f _ _ ?_).mono ?_; assumption; rintro e w' ⟨rfl, rfl⟩)))
              go_ret
              exact ⟨ret_int (H4.out _ (by (try rw [ME.out]); (try rw [AE.out]); unfold frm; simp) rfl).symm, (Below.refl _ _).alloc (Nat.le_refl _) _⟩
          · have AE : Hid (((ak : Int) != 0) = false) := ha
            by_cases hs : 1000 < body.size
            · have hs' : (1000 : Int) < (body.size : Int) := by omega
              go_enter Try.func29, Try.ntmps29
              go_wp2_with (first | (go_at_call 53; first | (refine (isPort_f _ _ ?_).mono ?_; assumption; rintro e w' ⟨rfl, rfl⟩) | (refine (isPort_t _ _ ?_).mono ?_; assumption; rintro e w' ⟨rfl, rfl⟩)) | (go_at_call 54; first | (refine (beyond_t _ _ ?_).mono ?_; assumption; rintro e w' ⟨rfl, rfl⟩) | (refine (beyond_f _ _ ?_).mono ?_; assumption; rintro e w' ⟨rfl, rfl⟩)))
              go_ret
              exact ⟨ret_int (H2.out hs _ (by (try rw [ME.out]); (try rw [AE.out]); unfold frm; simp) rfl).symm, (Below.refl _ _).alloc (Nat.le_refl _) _⟩
            · have hs' : ¬ (1000 : Int) < (body.size : Int) := by omega
              go_enter Try.func29, Try.ntmps29
              go_wp2_with (first | (go_at_call 53; first | (refine (isPort_f _ _ ?_).mono ?_; assumption; rintro e w' ⟨rfl, rfl⟩) | (refine (isPort_t _ _ ?_).mono ?_; assumption; rintro e w' ⟨rfl, rfl⟩)) | (go_at_call 54; first | (refine (beyond_t _ _ ?_).mono ?_; assumption; rintro e w' ⟨rfl, rfl⟩) | (refine (beyond_f _ _ ?_).mono ?_; assumption; rintro e w' ⟨rfl, rfl⟩)))
              go_ret
              exact ⟨ret_int (H0.out hs _ (by (try rw [ME.out]); (try rw [AE.out]); unfold frm; simp) rfl).symm, (Below.refl _ _).alloc (Nat.le_refl _) _⟩
        · skip
          rcases Bool.eq_false_or_eq_true ((ak : Int) != 0) with ha | ha
          · have AE : Hid (((ak : Int) != 0) = true) := ha
            rcases Bool.eq_false_or_eq_true ack with rfl | rfl
            · skip
              by_cases hs : 1000 < body.size
              · have hs' : (1000 : Int) < (body.size : Int) := by omega
                go_enter Try.func29, Try.ntmps29
                go_wp2_with (first | (go_at_call 53; first | (refine (isPort_f _ _ ?_).mono ?_; assumption; rintro e w' ⟨rfl, rfl⟩) | (refine (isPort_t _ _ ?_).mono ?_; assumption; rintro e w' ⟨rfl, rfl⟩)) | (go_at_call 54; first | (refine (beyond_t _ _ ?_).mono ?_; assumption; rintro e w' ⟨rfl, rfl⟩) | (refine (beyond_f _ _ ?_).mono ?_; assumption; rintro e w' ⟨rfl, rfl⟩)))
                go_ret
                exact ⟨ret_int (H2.out hs _ (by (try rw [ME.out]); (try rw [AE.out]); unfold frm; simp) rfl).symm, (Below.refl _ _).alloc (Nat.le_refl _) _⟩
              · have hs' : ¬ (1000 : Int) < (body.size : Int) := by omega
                go_enter Try.func29, Try.ntmps29
                go_wp2_with (first | (go_at_call 53; first | (refine (isPort_f _ _ ?_).mono ?_; assumption; rintro e w' ⟨rfl, rfl⟩) | (refine (isPort_t _ _ ?_).mono ?_; assumption; rintro e w' ⟨rfl, rfl⟩)) | (go_at_call 54; first | (refine (beyond_t _ _ ?_).mono ?_; assumption; rintro e w' ⟨rfl, rfl⟩) | (refine (beyond_f _ _ ?_).mono ?_; assumption; rintro e w' ⟨rfl, rfl⟩)))
                go_ret
                exact ⟨ret_int (H0.out hs _ (by (try rw [ME.out]); (try rw [AE.out]); unfold frm; simp) rfl).symm, (Below.refl _ _).alloc (Nat.le_refl _) _⟩
            · skip
              go_enter Try.func29, Try.ntmps29
              go_wp2_with (first | (go_at_call 53; first | (refine (isPort_f _ _ ?_).mono ?_; assumption; rintro e w' ⟨rfl, rfl⟩) | (refine (isPort_t _ _ ?_).mono ?_; assumption; rintro e w' ⟨rfl, rfl⟩)) | (go_at_call 54; first | (refine (beyond_t _ _ ?_).mono ?_; assumption; rintro e w' ⟨rfl, rfl⟩) | (refine (beyond_f _ _ ?_).mono ?_; assumption; rintro e w' ⟨rfl, rfl⟩)))
              go_ret
              exact ⟨ret_int (H4.out _ (by (try rw [ME.out]); (try rw [AE.out]); unfold frm; simp) rfl).symm, (Below.refl _ _).alloc (Nat.le_refl _) _⟩
          · have AE : Hid (((ak : Int) != 0) = false) := ha
            by_cases hs : 1000 < body.size
            · have hs' : (1000 : Int) < (body.size : Int) := by omega
              go_enter Try.func29, Try.ntmps29
              go_wp2_with (first | (go_at_call 53; first | (refine (isPort_f _ _ ?_).mono ?_; assumption; rintro e w' ⟨rfl, rfl⟩) | (refine (isPort_t _ _ ?_).mono ?_; assumption; rintro e w' ⟨rfl, rfl⟩)) | (go_at_call 54; first | (refine (beyond_t _ _ ?_).mono ?_; assumption; rintro e w' ⟨rfl, rfl⟩) | (refine (beyond_f _ _ ?_).mono ?_; assumption; rintro e w' ⟨rfl, rfl⟩)))
              go_ret
              exact ⟨ret_int (H2.out hs _ (by (try rw [ME.out]); (try rw [AE.out]); unfold frm; simp) rfl).symm, (Below.refl _ _).alloc (Nat.le_refl _) _⟩
            · have hs' : ¬ (1000 : Int) < (body.size : Int) := by omega
              go_enter Try.func29, Try.ntmps29
              go_wp2_with (first | (go_at_call 53; first | (refine (isPort_f _ _ ?_).mono ?_; assumption; rintro e w' ⟨rfl, rfl⟩) | (refine (isPort_t _ _ ?_).mono ?_; assumption; rintro e w' ⟨rfl, rfl⟩)) | (go_at_call 54; first | (refine (beyond_t _ _ ?_).mono ?_; assumption; rintro e w' ⟨rfl, rfl⟩) | (refine (beyond_f _ _ ?_).mono ?_; assumption; rintro e w' ⟨rfl, rfl⟩)))
              go_ret
              exact ⟨ret_int (H0.out hs _ (by (try rw [ME.out]); (try rw [AE.out]); unfold frm; simp) rfl).symm, (Below.refl _ _).alloc (Nat.le_refl _) _⟩

theorem gchk_any (g : Sg) (w : World) :
    Calls Try.prog 29 #[gv g] w fun e w' => e = .returned (.int .i64 (gchk g)) ∧ Below w.heap.size w w' := by
  by_cases h : badp g.sp ∨ badp g.dp ∨ bad0 g.win ∨ bad0 g.mss
  · exact chk_bad g w h
  · obtain ⟨sa, sp, da, dp, sq, ak, syn, ack, fin, rst, win, mss, body⟩ := g
    exact chk_good sa sp da dp sq ak syn ack fin rst win mss body w (fun x => h (Or.inl x)) (fun x => h (Or.inr (Or.inl x))) (fun x => h (Or.inr (Or.inr (Or.inl x)))) (fun x => h (Or.inr (Or.inr (Or.inr x))))

/-! Lg -/

/-- How many numbers a segment takes. -/
def lnw (g : Sg) : Int := IntKind.i64.wrap (IntKind.i64.wrap ((g.body.size : Int) + (g.syn.toNat : Int)) + (g.fin.toNat : Int))
theorem lengthw_any (g : Sg) (w : World) (hb : g.body.size ≤ maxLen) :
    Calls Try.prog 59 #[gv g] w fun e w' => e = .returned (.int .i64 (lnw g)) ∧ Below w.heap.size w w' := by
  obtain ⟨sa, sp, da, dp, sq, ak, syn, ack, fin, rst, win, mss, body⟩ := g
  have hb' : body.size ≤ 9223372036854775807 := hb
  have v0 : IntKind.i64.wrap (body.size : Int) = (body.size : Int) := by rw [IntKind.wrap_i64]; omega
  have w1 : wrap64 ((body.size : Int) + 1) = IntKind.i64.wrap ((body.size : Int) + 1) := by rw [IntKind.wrap_i64]; unfold wrap64; omega
  have w2 : wrap64 (IntKind.i64.wrap ((body.size : Int) + 1) + 1) = IntKind.i64.wrap (IntKind.i64.wrap ((body.size : Int) + 1) + 1) := by rw [IntKind.wrap_i64 (IntKind.i64.wrap ((body.size : Int) + 1) + 1)]; unfold wrap64; omega
  have u1 : IntKind.i64.wrap (IntKind.i64.wrap ((body.size : Int) + 1)) = IntKind.i64.wrap ((body.size : Int) + 1) := by simp only [IntKind.wrap_i64]; omega
  have HL : Hid (lnw ⟨sa, sp, da, dp, sq, ak, syn, ack, fin, rst, win, mss, body⟩ = IntKind.i64.wrap (IntKind.i64.wrap ((body.size : Int) + (syn.toNat : Int)) + (fin.toNat : Int))) := rfl
  generalize lnw ⟨sa, sp, da, dp, sq, ak, syn, ack, fin, rst, win, mss, body⟩ = R at *
  generalize hA : IntKind.i64.wrap ((body.size : Int) + 1) = A at *
  generalize hB : IntKind.i64.wrap (A + 1) = B at *
  have HA := Lib.hid hA
  have HB := Lib.hid hB
  have HV := Lib.hid v0
  have HU := Lib.hid u1
  clear hb v0 u1
  cases syn <;> cases fin
  · clear hA hB w1 w2
    go_enter Try.func59, Try.ntmps59
    go_wp2
    go_ret
    exact ⟨ret_int (by rw [HL.out]; simp [HV.out]), (Below.refl _ _).alloc (Nat.le_refl _) _⟩
  · go_enter Try.func59, Try.ntmps59
    go_wp2
    go_ret
    exact ⟨ret_int (by rw [HL.out]; simp [HV.out, HA.out]), (Below.refl _ _).alloc (Nat.le_refl _) _⟩
  · go_enter Try.func59, Try.ntmps59
    go_wp2
    go_ret
    exact ⟨ret_int (by rw [HL.out]; simp [HA.out, HU.out]), (Below.refl _ _).alloc (Nat.le_refl _) _⟩
  · go_enter Try.func59, Try.ntmps59
    go_wp2
    go_ret
    exact ⟨ret_int (by rw [HL.out]; simp [HA.out, HB.out]), (Below.refl _ _).alloc (Nat.le_refl _) _⟩

end Go.Proofs.Ytnhcjefbiihfjaa.Tc
