/-
  Package rto: contracts (texts of an earlier round, put over).
-/
import Derived.Test.YtnhcjefbiihfjaaBa
namespace Go.Proofs.Ytnhcjefbiihfjaa.Rt
open Go.RowKit
set_option linter.unusedVariables false
set_option linter.unusedSimpArgs false

/-! Tm -/

/-- A timer. -/
structure Tm where
  known : Bool
  mean : Int
  spread : Int
  dbl : Int
/-- What always holds of one. -/
structure TOk (t : Tm) : Prop where
  m0 : 0 ≤ t.mean
  m1 : t.mean ≤ 8796093022208
  s0 : 0 ≤ t.spread
  s1 : t.spread ≤ 4398046511104
  d0 : 0 ≤ t.dbl
  d1 : t.dbl ≤ 6
def tm0 : Tm := ⟨false, 0, 0, 0⟩
theorem tm0_ok : TOk tm0 := ⟨by decide, by decide, by decide, by decide, by decide, by decide⟩
/-- How long, ahead of what was doubled. -/
def base (t : Tm) : Int := if t.known then t.mean / 8 + max 1 t.spread else 3
def p2 (d : Int) : Int := 2 ^ d.toNat
def val (t : Tm) : Int := min (max (base t * p2 t.dbl) 2) 64
def late (t : Tm) : Tm := { t with dbl := min (t.dbl + 1) 6 }
/-- An answer behind r ticks. -/
def smp (t : Tm) (r : Int) : Tm :=
  if t.known then ⟨true, t.mean + (r - t.mean / 8), t.spread + (max (r - t.mean / 8) (-(r - t.mean / 8)) - t.spread / 4), 0⟩ else ⟨true, 8 * r, 2 * r, 0⟩
theorem TOk.late {t : Tm} (h : TOk t) : TOk (late t) := ⟨h.m0, h.m1, h.s0, h.s1, by have := h.d0; show 0 ≤ min (t.dbl + 1) 6; omega, by show min (t.dbl + 1) 6 ≤ 6; omega⟩
theorem TOk.smp {t : Tm} (h : TOk t) {r : Int} (h0 : 0 ≤ r) (h1 : r ≤ 1099511627776) : TOk (smp t r) := by
  obtain ⟨a, b, c, d, _, _⟩ := h
  unfold Go.Proofs.Ytnhcjefbiihfjaa.Rt.smp
  split
  · refine ⟨?_, ?_, ?_, ?_, Int.le_refl 0, (by omega : (0 : Int) ≤ 6)⟩ <;> dsimp only <;> omega
  · refine ⟨?_, ?_, ?_, ?_, Int.le_refl 0, (by omega : (0 : Int) ≤ 6)⟩ <;> dsimp only <;> omega
theorem base_lo {t : Tm} (h : TOk t) : 1 ≤ base t ∧ base t ≤ 5497558138880 := by
  obtain ⟨a, b, c, d, _, _⟩ := h
  unfold base
  split <;> omega
theorem val_lo (t : Tm) : 2 ≤ val t ∧ val t ≤ 64 := by unfold val; omega
theorem d_cases {d : Int} (h0 : 0 ≤ d) (h1 : d ≤ 6) : d = 0 ∨ d = 1 ∨ d = 2 ∨ d = 3 ∨ d = 4 ∨ d = 5 ∨ d = 6 := by omega
/-- To be late never shortens it, and at most doubles it. -/
theorem val_late {t : Tm} (h : TOk t) : val t ≤ val (late t) ∧ val (late t) ≤ 2 * val t := by
  obtain ⟨b0, b1⟩ := base_lo h
  have e : base (late t) = base t := rfl
  unfold val
  rw [e]
  generalize base t = p at *
  have e2 : (late t).dbl = min (t.dbl + 1) 6 := rfl
  rw [e2]
  rcases d_cases h.d0 h.d1 with q | q | q | q | q | q | q
  · rw [q, show min ((0 : Int) + 1) 6 = 1 from by omega, show p2 0 = 1 from rfl, show p2 1 = 2 from rfl]; omega
  · rw [q, show min ((1 : Int) + 1) 6 = 2 from by omega, show p2 1 = 2 from rfl, show p2 2 = 4 from rfl]; omega
  · rw [q, show min ((2 : Int) + 1) 6 = 3 from by omega, show p2 2 = 4 from rfl, show p2 3 = 8 from rfl]; omega
  · rw [q, show min ((3 : Int) + 1) 6 = 4 from by omega, show p2 3 = 8 from rfl, show p2 4 = 16 from rfl]; omega
  · rw [q, show min ((4 : Int) + 1) 6 = 5 from by omega, show p2 4 = 16 from rfl, show p2 5 = 32 from rfl]; omega
  · rw [q, show min ((5 : Int) + 1) 6 = 6 from by omega, show p2 5 = 32 from rfl, show p2 6 = 64 from rfl]; omega
  · rw [q, show min ((6 : Int) + 1) 6 = 6 from by omega, show p2 6 = 64 from rfl]; omega

/-- A block that holds a timer. -/
def TB (b : Nat) (t : Tm) (W : World) : Prop := W.heap[b]? = some (.cells #[.bool t.known, .int .i64 t.mean, .int .i64 t.spread, .int .i64 t.dbl] 93 (0, 0))
section
variable {b : Nat} {t : Tm} {W W' : World}
theorem TB.lt (h : TB b t W) : b < W.heap.size := lt_of_heap h
theorem TB.keep (h : TB b t W) (hb : Below W.heap.size W W') : TB b t W' := (hb.block _ h.lt).trans h
theorem TB.kp {bs : List Nat} (h : TB b t W) (hk : Kp bs W W') (hn : b ∉ bs) : TB b t W' := (hk.block b h.lt hn).trans h
theorem TB.drew (h : TB b t W) : TB b t W.drew := h
theorem TB.c0 (h : TB b t W) : W.cell? ⟨b, 0, none⟩ = some (.bool t.known) := Joins.cell_of_block h 0
theorem TB.c1 (h : TB b t W) : W.cell? ⟨b, 1, none⟩ = some (.int .i64 t.mean) := Joins.cell_of_block h 1
theorem TB.c2 (h : TB b t W) : W.cell? ⟨b, 2, none⟩ = some (.int .i64 t.spread) := Joins.cell_of_block h 2
theorem TB.c3 (h : TB b t W) : W.cell? ⟨b, 3, none⟩ = some (.int .i64 t.dbl) := Joins.cell_of_block h 3
theorem TB.s0 (h : TB b t W) (x : Bool) : TB b { t with known := x } (W.setCell ⟨b, 0, none⟩ (.bool x)) := Joins.block_setCell h _
theorem TB.s1 (h : TB b t W) (x : Int) : TB b { t with mean := x } (W.setCell ⟨b, 1, none⟩ (.int .i64 x)) := Joins.block_setCell h _
theorem TB.s2 (h : TB b t W) (x : Int) : TB b { t with spread := x } (W.setCell ⟨b, 2, none⟩ (.int .i64 x)) := Joins.block_setCell h _
theorem TB.s3 (h : TB b t W) (x : Int) : TB b { t with dbl := x } (W.setCell ⟨b, 3, none⟩ (.int .i64 x)) := Joins.block_setCell h _
theorem TB.free (h : TB b t W) (i : Nat) : W.frozen? ⟨b, i, none⟩ = false := Joins.unfrozen_of_block h i
end

/-! Lo -/

theorem new_any (w : World) :
    Calls Try.prog 39 #[] w fun e w' => e = .returned (.pointer (some ⟨w.heap.size, 0, none⟩)) ∧ TB w.heap.size tm0 w' ∧ Below w.heap.size w w' := by
  have T0 : Hid (TB w.heap.size tm0 (w.alloc (.cells #[.bool false, .int .i64 0, .int .i64 0, .int .i64 0] 93))) := heap_alloc_new w _
  have b0 : Below w.heap.size w (w.alloc (.cells #[.bool false, .int .i64 0, .int .i64 0, .int .i64 0] 93)) := (Below.refl _ _).alloc (Nat.le_refl _) _
  go_enter Try.func39, Try.ntmps39
  go_wp2_with fail
  go_ret
  exact ⟨rfl, T0.out, b0⟩

theorem late_any (b : Nat) (t : Tm) (w : World) (h : TB b t w) (ok : TOk t) :
    Calls Try.prog 41 #[.pointer (some ⟨b, 0, none⟩)] w fun e w' => e = .returned (.tuple #[]) ∧ TB b (late t) w' ∧ Kp [b] w w' := by
  have c3 := h.c3
  have f3 := h.free 3
  have hd0 := ok.d0
  have hd1 := ok.d1
  have HT : Hid (∀ x, x = min (t.dbl + 1) 6 → TB b (late t) (w.setCell ⟨b, 3, none⟩ (.int .i64 x))) := fun x hx => by rw [hx]; exact h.s3 _
  have HK : Hid (∀ v, Kp [b] w (w.setCell ⟨b, 3, none⟩ v)) := fun v => (Kp.refl _ _).setCell (Or.inl (by simp)) _
  generalize t.dbl = d at *
  generalize late t = t' at *
  clear h ok
  go_enter Try.func41, Try.ntmps41
  go_wp2_with fail
  all_goals refine bodyPost_end (results_none rfl _ _ _) rfl ?_
  all_goals exact ⟨rfl, HT.out _ (by omega), HK.out _⟩

theorem plain_any (b : Nat) (t : Tm) (w : World) (h : TB b t w) (ok : TOk t) :
    Calls Try.prog 40 #[.pointer (some ⟨b, 0, none⟩)] w fun e w' => e = .returned (.int .i64 (base t)) ∧ Below w.heap.size w w' := by
  have c0 := h.c0
  have c1 := h.c1
  have c2 := h.c2
  obtain ⟨m0, m1, s0, s1, _, _⟩ := ok
  have HB : Hid (base t = if t.known then t.mean / 8 + max 1 t.spread else 3) := rfl
  have hq : Hid (t.mean.tdiv 8 = t.mean / 8) := Int.tdiv_eq_ediv_of_nonneg m0
  generalize base t = B at *
  cases hk : t.known with
  | false =>
    rw [hk] at c0 HB
    go_enter Try.func40, Try.ntmps40
    go_wp2_with fail
    go_ret
    exact ⟨ret_int HB.out.symm, Below.refl _ _⟩
  | true =>
    rw [hk] at c0 HB
    go_enter Try.func40, Try.ntmps40
    go_wp2_with fail
    go_region
    all_goals go_wp2_with fail
    all_goals go_ret
    all_goals exact ⟨ret_int (by rw [HB.out]; simp), (Below.refl _ _).drew⟩


/-! Va -/

theorem wrap_shl {p d : Int} (b0 : 1 ≤ p) (b1 : p ≤ 5497558138880) (h0 : 0 ≤ d) (h1 : d ≤ 6) : IntKind.i64.wrap (p * 2 ^ d.toNat) = p * p2 d := by
  rw [show (2 : Int) ^ d.toNat = p2 d from rfl, IntKind.wrap_i64]
  rcases d_cases h0 h1 with q | q | q | q | q | q | q <;> subst q
  · rw [show p2 0 = 1 from rfl]; omega
  · rw [show p2 1 = 2 from rfl]; omega
  · rw [show p2 2 = 4 from rfl]; omega
  · rw [show p2 3 = 8 from rfl]; omega
  · rw [show p2 4 = 16 from rfl]; omega
  · rw [show p2 5 = 32 from rfl]; omega
  · rw [show p2 6 = 64 from rfl]; omega

set_option maxHeartbeats 4000000 in
theorem value_any (b : Nat) (t : Tm) (w : World) (h : TB b t w) (ok : TOk t) :
    Calls Try.prog 22 #[.pointer (some ⟨b, 0, none⟩)] w fun e w' => e = .returned (.int .i64 (val t)) ∧ Below w.heap.size w w' := by
  have c3 := h.c3
  have HP : Hid (∀ w', TB b t w' → Calls Try.prog 40 #[.pointer (some ⟨b, 0, none⟩)] w' fun e w'' => e = .returned (.int .i64 (base t)) ∧ Below w'.heap.size w' w'') := fun w' h' => plain_any b t w' h' ok
  obtain ⟨b0, b1⟩ := base_lo ok
  have T := Lib.hid h
  have HV : Hid (∀ x, x = min (max (base t * p2 t.dbl) 2) 64 → x = val t) := fun x hx => hx
  have hd0 := ok.d0
  have hd1 := ok.d1
  have HC : Hid (∀ w1, Below w.drew.heap.size w.drew w1 → w1.cell? ⟨b, 3, none⟩ = some (.int .i64 t.dbl)) := fun w1 hb => (h.drew.keep hb).c3
  have HD : Hid (∀ w1, Below w.drew.heap.size w.drew w1 → Below w.heap.size w w1) := fun w1 hb => (Below.refl _ _).drew.trans hb
  have T1 : Hid (TB b t w.drew) := h.drew
  clear h ok T
  generalize t.dbl = d at *
  generalize base t = p at *
  generalize val t = V at *
  all_goals go_enter Try.func22, Try.ntmps22
  all_goals go_wp2_with fail
  all_goals go_region_with (go_at_call 40; refine (HP.out _ ?_).mono ?_; exact T1.out; rintro e w1 ⟨rfl, hb1⟩; have d3 := HC.out _ hb1)
  all_goals go_wp2_with fail
  all_goals go_ret
  all_goals refine ⟨ret_int (HV.out _ ?_), HD.out _ hb1⟩
  all_goals rw [wrap_shl b0 b1 hd0 hd1]

/-! Sa -/

/-- What shift leaves. -/
def shf (t : Tm) (d : Int) : Tm := { t with mean := t.mean + d, spread := t.spread + (max d (-d) - t.spread / 4) }
set_option maxHeartbeats 1000000 in
theorem shift_any (b : Nat) (t : Tm) (d : Int) (w : World) (h : TB b t w) (ok : TOk t) (hd : -1099511627776 ≤ d ∧ d ≤ 1099511627776) (hm : 0 ≤ t.mean + d) :
    Calls Try.prog 96 #[.pointer (some ⟨b, 0, none⟩), .int .i64 d] w fun e w' => e = .returned (.tuple #[]) ∧ TB b (shf t d) w' ∧ Kp [b] w w' := by
  have c1 := h.c1
  have f1 := h.free 1
  have T1 := Lib.hid (h.s1 (t.mean + d))
  have c2 : ((w.setCell ⟨b, 1, none⟩ (.int .i64 (t.mean + d))).drew).cell? ⟨b, 2, none⟩ = some (.int .i64 t.spread) := T1.out.c2
  have f2 : ((w.setCell ⟨b, 1, none⟩ (.int .i64 (t.mean + d))).drew).frozen? ⟨b, 2, none⟩ = false := T1.out.free 2
  have HT : Hid (∀ x, x = t.spread + (max d (-d) - t.spread / 4) → TB b (shf t d) (((w.setCell ⟨b, 1, none⟩ (.int .i64 (t.mean + d))).setCell ⟨b, 2, none⟩ (.int .i64 x)).drew)) := fun x hx => by rw [hx]; exact (T1.out.s2 _).drew
  have HK : Hid (∀ v, Kp [b] w (((w.setCell ⟨b, 1, none⟩ (.int .i64 (t.mean + d))).setCell ⟨b, 2, none⟩ v).drew)) := fun v => (((Kp.refl _ _).setCell (Or.inl (by simp)) _).setCell (Or.inl (by simp)) _).drew
  obtain ⟨m0, m1, s0, s1, _, _⟩ := ok
  obtain ⟨d0, d1⟩ := hd
  generalize t.mean = m at *
  generalize t.spread = s at *
  generalize shf t d = t' at *
  clear h
  go_enter Try.func96, Try.ntmps96
  go_wp2_with fail
  generalize w.setCell ⟨b, 1, none⟩ (.int .i64 (m + d)) = W1 at *
  go_region
  all_goals go_wp2_with fail
  all_goals refine bodyPost_end (results_none rfl _ _ _) rfl ?_
  all_goals exact ⟨rfl, HT.out _ rfl, HK.out _⟩

theorem smp_first {t : Tm} (h : t.known = false) (r : Int) : smp t r = ⟨true, 8 * r, 2 * r, 0⟩ := by unfold smp; rw [h]; rfl
theorem smp_next {t : Tm} (h : t.known = true) (r : Int) : smp t r = { shf t (r - t.mean / 8) with dbl := 0 } := by
  unfold smp shf
  rw [h]; rfl

theorem sample_bad (b : Nat) (r : Int) (w : World) (hr : r < 0 ∨ 1099511627776 < r) :
    Calls Try.prog 87 #[.pointer (some ⟨b, 0, none⟩), .int .i64 r] w fun e w' => e = .returned (.int .i64 1) ∧ w' = w := by
  by_cases h0 : r < 0
  · clear hr
    go_enter Try.func87, Try.ntmps87
    go_wp2_with fail
    go_ret
    exact ⟨rfl, rfl⟩
  · have h1 : 1099511627776 < r := by omega
    clear hr
    go_enter Try.func87, Try.ntmps87
    go_wp2_with fail
    go_ret
    exact ⟨rfl, rfl⟩

set_option maxHeartbeats 1000000 in
theorem sample_ok (b : Nat) (t : Tm) (r : Int) (w : World) (h : TB b t w) (ok : TOk t) (hr : 0 ≤ r ∧ r ≤ 1099511627776) :
    Calls Try.prog 87 #[.pointer (some ⟨b, 0, none⟩), .int .i64 r] w fun e w' => e = .returned (.int .i64 0) ∧ TB b (smp t r) w' ∧ Kp [b] w w' := by
  have c0 := h.c0
  have c1 := h.c1
  have f0 := h.free 0
  obtain ⟨r0, r1⟩ := hr
  have h0 : ¬ r < 0 := by omega
  have h1 : ¬ 1099511627776 < r := by omega
  have m0 := ok.m0
  have m1 := ok.m1
  cases hk : t.known with
  | false =>
    rw [hk] at c0
    have T0 := Lib.hid h
    have T1 := Lib.hid (h.s0 true)
    have T2 := Lib.hid (T1.out.s1 (8 * r))
    have T3 := Lib.hid (T2.out.s2 (2 * r))
    have T4 := Lib.hid (T3.out.s3 0)
    have HS := Lib.hid (smp_first hk r)
    have f1 := T1.out.free 1
    have f2 := T2.out.free 2
    have f3 := T3.out.free 3
    have d1 := T1.out.c1
    have d2 := T2.out.c2
    have d3 := T3.out.c3
    have K4 : Hid (Kp [b] w ((((w.setCell ⟨b, 0, none⟩ (.bool true)).setCell ⟨b, 1, none⟩ (.int .i64 (8 * r))).setCell ⟨b, 2, none⟩ (.int .i64 (2 * r))).setCell ⟨b, 3, none⟩ (.int .i64 0))) := ((((Kp.refl _ _).setCell (Or.inl (by simp)) _).setCell (Or.inl (by simp)) _).setCell (Or.inl (by simp)) _).setCell (Or.inl (by simp)) _
    clear h ok
    go_enter Try.func87, Try.ntmps87
    go_wp2_with fail
    go_ret
    refine ⟨rfl, ?_, K4.out⟩
    rw [HS.out]
    exact T4.out
  | true =>
    rw [hk] at c0
    have HS := Lib.hid (smp_next hk r)
    have HSh : Hid (Calls Try.prog 96 #[.pointer (some ⟨b, 0, none⟩), .int .i64 (r - t.mean / 8)] w fun e w' => e = .returned (.tuple #[]) ∧ TB b (shf t (r - t.mean / 8)) w' ∧ Kp [b] w w') := shift_any b t (r - t.mean / 8) w h ok (by omega) (by omega)
    have HEnd : Hid (∀ w', TB b (shf t (r - t.mean / 8)) w' → Kp [b] w w' → TB b (smp t r) (w'.setCell ⟨b, 3, none⟩ (.int .i64 0)) ∧ Kp [b] w (w'.setCell ⟨b, 3, none⟩ (.int .i64 0))) := fun w' h1 h2 => ⟨by rw [HS.out]; exact h1.s3 0, h2.setCell (Or.inl (by simp)) _⟩
    generalize t.mean = m at *
    generalize smp t r = t' at *
    clear h ok HS
    go_enter Try.func87, Try.ntmps87
    go_wp2_with fail
    refine HSh.out.mono ?_; rintro e w1 ⟨rfl, h1, h2⟩
    have f3 := h1.free 3
    have d3 := h1.c3
    have HF := Lib.hid (HEnd.out _ h1 h2)
    clear h1 h2
    generalize shf t (r - m / 8) = t'' at *
    go_wp2_with fail
    go_ret
    exact ⟨rfl, HF.out⟩
end Go.Proofs.Ytnhcjefbiihfjaa.Rt
