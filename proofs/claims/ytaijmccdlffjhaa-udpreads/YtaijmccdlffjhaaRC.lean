/-
  Contracts of the document's outside, ports and UdpCheck.
-/
import Derived.Test.YtaijmccdlffjhaaWr
namespace Go.Proofs.Ytaijmccdlffjhaa
open Go.RowKit
set_option linter.unusedVariables false
set_option linter.unusedSimpArgs false

theorem outside_t (n : Int) (w : World) (h : badp n) :
    Calls Try.prog 30 #[.int .i64 n, .int .i64 1, .int .i64 65535] w fun e w' => e = .returned (.bool true) ∧ w' = w := by
  unfold badp at h
  by_cases h0 : n < 1
  · go_enter Try.func30, Try.ntmps30
    go_wp2
    go_ret
    exact ⟨rfl, rfl⟩
  · have h1 : 65535 < n := by omega
    go_enter Try.func30, Try.ntmps30
    go_wp2
    go_ret
    exact ⟨rfl, rfl⟩
theorem outside_f (n : Int) (w : World) (h : ¬ badp n) :
    Calls Try.prog 30 #[.int .i64 n, .int .i64 1, .int .i64 65535] w fun e w' => e = .returned (.bool false) ∧ w' = w := by
  unfold badp at h
  have h0 : ¬ n < 1 := by omega
  have h1 : ¬ 65535 < n := by omega
  clear h
  go_enter Try.func30, Try.ntmps30
  go_wp2
  go_ret
  exact ⟨rfl, rfl⟩

/-- Two ends in a row. -/
abbrev ec (a : Int) (p : Int) (b : Int) (q : Int) : Array Value := #[.int .u32 a, .int .i64 p, .int .u32 b, .int .i64 q]

set_option maxHeartbeats 1000000 in
theorem ports_any (a p b q : Int) (k0 : Nat) (w : World) (h : w.heap[k0]? = some (.cells (ec a p b q) 24 (0, 0))) (r : Bool) (hr : r = decide (¬ badp p ∧ ¬ badp q)) :
    Calls Try.prog 19 #[.slice (some ⟨k0, 0, none⟩) 2 2] w fun e w' => e = .returned (.bool r) ∧ Below w.heap.size w w' := by
  have HB : Hid (∀ W, Below w.heap.size w W → W.heap[k0]? = some (.cells (ec a p b q) 24 (0, 0))) := fun W hb => (hb.block _ (lt_of_heap h)).trans h
  have HR : Hid (r = decide (¬ badp p ∧ ¬ badp q)) := hr
  clear hr h
  go_enter Try.func19, Try.ntmps19
  go_wp2
  go_loopw [7] (fun i w' => ((i = .int .i64 0) ∨ (i = .int .i64 1 ∧ ¬ badp p) ∨ (i = .int .i64 2 ∧ ¬ badp p ∧ ¬ badp q)) ∧ Below w.heap.size w w') (fun i _ => 2 - (intOf i).toNat)
  case atStart => exact ⟨Or.inl rfl, Below.refl _ _⟩
  case round =>
    obtain ⟨hi, hbel⟩ := hrel
    have hblk := HB.out _ hbel
    rcases hi with rfl | ⟨rfl, hp⟩ | ⟨rfl, hp, hq⟩
    · have c0 := Joins.cell_of_block hblk 0
      have c1 := Joins.cell_of_block hblk 1
      simp at c0 c1
      by_cases h0 : badp p
      · go_wp2_with (go_at_call 30; first | (refine (outside_t _ _ ?_).mono ?_; assumption; rintro e w' ⟨rfl, rfl⟩) | (refine (outside_f _ _ ?_).mono ?_; assumption; rintro e w' ⟨rfl, rfl⟩))
        go_ret
        exact ⟨ret_bool (by rw [HR.out]; simp [h0]), hbel.alloc hbel.size _⟩
      · go_wp2_with (go_at_call 30; first | (refine (outside_t _ _ ?_).mono ?_; assumption; rintro e w' ⟨rfl, rfl⟩) | (refine (outside_f _ _ ?_).mono ?_; assumption; rintro e w' ⟨rfl, rfl⟩))
        go_roundw
        case rel => exact ⟨Or.inr (Or.inl ⟨rfl, h0⟩), hbel.alloc hbel.size _⟩
        case measure => simp [intOf]
    · have c2 := Joins.cell_of_block hblk 2
      have c3 := Joins.cell_of_block hblk 3
      simp at c2 c3
      by_cases h0 : badp q
      · go_wp2_with (go_at_call 30; first | (refine (outside_t _ _ ?_).mono ?_; assumption; rintro e w' ⟨rfl, rfl⟩) | (refine (outside_f _ _ ?_).mono ?_; assumption; rintro e w' ⟨rfl, rfl⟩))
        go_ret
        exact ⟨ret_bool (by rw [HR.out]; simp [h0]), hbel.alloc hbel.size _⟩
      · go_wp2_with (go_at_call 30; first | (refine (outside_t _ _ ?_).mono ?_; assumption; rintro e w' ⟨rfl, rfl⟩) | (refine (outside_f _ _ ?_).mono ?_; assumption; rintro e w' ⟨rfl, rfl⟩))
        go_roundw
        case rel => exact ⟨Or.inr (Or.inr ⟨rfl, hp, h0⟩), hbel.alloc hbel.size _⟩
        case measure => simp [intOf]
    · go_wp2
      go_ret
      exact ⟨ret_bool (by rw [HR.out]; exact (decide_eq_true ⟨hp, hq⟩).symm), hbel⟩

set_option maxHeartbeats 1000000 in
theorem rchk_any (g : Gr) (w : World) :
    Calls Try.prog 10 #[gv g] w fun e w' => e = .returned (.int .i64 (gchk g)) ∧ Below w.heap.size w w' := by
  have b0 : Below w.heap.size w (w.alloc (.cells (gc g) 26)) := (Below.refl _ _).alloc (Nat.le_refl _) _
  have P0 := Lib.hid (GB.new w g)
  have HN : Hid (((w.alloc (.cells (gc g) 26)).alloc (.cells (ec (g.sa : Int) g.sp (g.da : Int) g.dp) 24)).heap[w.heap.size + 1]? = some (.cells (ec (g.sa : Int) g.sp (g.da : Int) g.dp) 24 (0, 0))) := by
    have := heap_alloc_new (w.alloc (.cells (gc g) 26)) (.cells (ec (g.sa : Int) g.sp (g.da : Int) g.dp) 24)
    rwa [show (w.alloc (.cells (gc g) 26)).heap.size = w.heap.size + 1 from by simp] at this
  have HC : Hid (gchk g = if badp g.sp ∨ badp g.dp then 1 else if 1000 < g.body.size then 2 else 0) := rfl
  generalize gchk g = c at *
  by_cases hp : badp g.sp ∨ badp g.dp
  · go_enter Try.func10, Try.ntmps10
    go_wp2_with fail
    refine (ports_any (g.sa : Int) g.sp (g.da : Int) g.dp (w.heap.size + 1) _ HN.out false ?_).mono ?_
    · symm; rw [decide_eq_false_iff_not]; intro h; exact hp.elim h.1 h.2
    rintro e w1 ⟨rfl, hb1⟩
    have b1 := (b0.alloc (by simp) (.cells (ec (g.sa : Int) g.sp (g.da : Int) g.dp) 24)).trans (hb1.mono (by simp; omega))
    go_wp2
    go_ret
    exact ⟨ret_int (by rw [HC.out, if_pos hp]), b1⟩
  · have HD : Hid (true = decide (¬ badp g.sp ∧ ¬ badp g.dp)) := by
      show _ = _
      symm; rw [decide_eq_true_iff]; exact ⟨fun h => hp (Or.inl h), fun h => hp (Or.inr h)⟩
    by_cases hs : 1000 < g.body.size
    · go_enter Try.func10, Try.ntmps10
      go_wp2_with fail
      refine (ports_any (g.sa : Int) g.sp (g.da : Int) g.dp (w.heap.size + 1) _ HN.out true HD.out).mono ?_
      rintro e w1 ⟨rfl, hb1⟩
      have b1 := (b0.alloc (by simp) (.cells (ec (g.sa : Int) g.sp (g.da : Int) g.dp) 24)).trans (hb1.mono (by simp; omega))
      have x4 := ((P0.out.alloc (.cells (ec (g.sa : Int) g.sp (g.da : Int) g.dp) 24)).keep hb1).c4
      go_wp2
      go_ret
      exact ⟨ret_int (by rw [HC.out, if_neg hp, if_pos hs]), b1⟩
    · go_enter Try.func10, Try.ntmps10
      go_wp2_with fail
      refine (ports_any (g.sa : Int) g.sp (g.da : Int) g.dp (w.heap.size + 1) _ HN.out true HD.out).mono ?_
      rintro e w1 ⟨rfl, hb1⟩
      have b1 := (b0.alloc (by simp) (.cells (ec (g.sa : Int) g.sp (g.da : Int) g.dp) 24)).trans (hb1.mono (by simp; omega))
      have x4 := ((P0.out.alloc (.cells (ec (g.sa : Int) g.sp (g.da : Int) g.dp) 24)).keep hb1).c4
      go_wp2
      go_ret
      exact ⟨ret_int (by rw [HC.out, if_neg hp, if_neg hs]), b1⟩
end Go.Proofs.Ytaijmccdlffjhaa
