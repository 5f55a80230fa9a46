/-
  The walk of AddrPrefixes.
-/
import Derived.Test.YthdmbggpokaggaaDoorRefQ
import Derived.Test.YthdmbggpokaggaaDoorRefH
namespace Go.Proofs.YthdmbggpokaggaaDoor
open Go.RowKit
set_option linter.unusedVariables false

theorem both_print (pa : Nat) (pb : Int) (hpa : pa < 4294967296) : ∃ (T : ByteArray) (C : Int),
    (∀ w', Pow w' → Calls Tryd.prog 14 #[.agg #[.int .u32 pa, .int .i64 pb]] w' fun e w'' => e = .returned (.tuple #[.string T, .int .i64 C]) ∧ Below w'.heap.size w' w'') ∧
    (∀ w', Calls Tryd.prog 15 #[.agg #[.int .u32 pa, .int .i64 pb]] w' fun e w'' => e = .returned (.tuple #[.string T, .int .i64 C]) ∧ Below w'.heap.size w' w'') := by
  by_cases hc : chk pa pb = 0
  · obtain ⟨hc0, hc1, hc2⟩ := chk_ok hc
    obtain ⟨n, rfl⟩ := Int.eq_ofNat_of_zero_le hc0
    exact ⟨_, _, fun w' h => pprint_yes pa n w' hpa (by omega) hc h, fun w' => rpprint_yes pa n w' hpa (by omega) hc⟩
  · exact ⟨_, _, fun w' h => pprint_no pa pb w' hpa hc, fun w' => rpprint_no pa pb w' hpa hc⟩

set_option maxRecDepth 100000 in
set_option maxHeartbeats 4000000 in
theorem prefixes_walk (pa : Nat) (pb : Int) (l : List UInt8) (x : Nat) (m : Int) (w : World) (hpa : pa < 4294967296) (hx : x < 4294967296) (hl : l.length < 4294967281) (hm : w.cell? ⟨1, 0, none⟩ = some (.int .i64 m)) (hp : Pow w) :
    Calls Tryd.prog 4 #[.agg #[.int .u32 pa, .int .i64 pb], .string ⟨l.toArray⟩, .int .u32 x] w fun e w' => e = .returned (.bool true) ∧ Below w.heap.size w w' := by
  obtain ⟨T, C, h14, h15⟩ := both_print pa pb hpa
  have HA : Hid (∀ w', Calls Tryd.prog 12 #[.string ⟨l.toArray⟩] w' fun e w'' => e = .returned (pended (pparseL l)) ∧ Below w'.heap.size w' w'') := fun w' => pparse_any l w' (by omega)
  have HB : Hid (∀ w', Below w.heap.size w w' → Calls Tryd.prog 13 #[.string ⟨l.toArray⟩] w' fun e w'' => e = .returned (pended (pparseL l)) ∧ Below w'.heap.size w' w'') := fun w' hb => rpparse_any l m w' hl (by rw [hb.cell (World.block_lt_of_cell? w _ hm)]; exact hm)
  have HC : Hid (∀ w', Below w.heap.size w w' → Calls Tryd.prog 14 #[.agg #[.int .u32 pa, .int .i64 pb]] w' fun e w'' => e = .returned (.tuple #[.string T, .int .i64 C]) ∧ Below w'.heap.size w' w'') := fun w' hb => h14 w' (hp.keep hb)
  have HD := Lib.hid h15
  have HE : Hid (∀ w', Calls Tryd.prog 16 #[.agg #[.int .u32 pa, .int .i64 pb]] w' fun e w'' => e = .returned (.int .i64 (chk pa pb)) ∧ Below w'.heap.size w' w'') := fun w' => check_any pa pb w' hpa
  have HF : Hid (∀ w', Calls Tryd.prog 17 #[.agg #[.int .u32 pa, .int .i64 pb]] w' fun e w'' => e = .returned (.int .i64 (chk pa pb)) ∧ Below w'.heap.size w' w'') := fun w' => rcheck_any pa pb w' hpa
  have HG : Hid (∀ w', Calls Tryd.prog 18 #[.agg #[.int .u32 pa, .int .i64 pb], .int .u32 x] w' fun e w'' => e = .returned (.bool (has pa pb x)) ∧ Below w'.heap.size w' w'') := fun w' => has_any pa x pb w' hpa hx
  have HH : Hid (∀ w', Calls Tryd.prog 19 #[.agg #[.int .u32 pa, .int .i64 pb], .int .u32 x] w' fun e w'' => e = .returned (.bool (has pa pb x)) ∧ Below w'.heap.size w' w'') := fun w' => rhas_any pa x pb w' hpa hx
  have hend : ∃ (ra rb : Nat) (E : Int), pended (pparseL l) = .tuple #[.agg #[.int .u32 (ra : Int), .int .i64 (rb : Int)], .int .i64 E] := ⟨_, _, _, rfl⟩
  obtain ⟨ra, rb, E, hend⟩ := hend
  rw [hend] at HA HB
  have N1 : Hid (∀ W W1 : World, ∀ (p : Addr) (v : Value), Below W.heap.size W W1 → W.cell? p = some v → W1.cell? p = some v) := fun W W1 p v hb hc => by
    rw [hb.cell (World.block_lt_of_cell? W _ hc)]; exact hc
  have K0 := Lib.hid (blk_new w (.int .u32 (pa : Int)) (.int .i64 pb))
  clear hend h14 h15 hp hm
  generalize chk pa pb = G at *
  generalize has pa pb x = I at *
  go_enter Tryd.func4, Tryd.ntmps4
  go_wp2_with fail
  refine (HA.out _).mono ?_; rintro e w1 ⟨rfl, hb1⟩
  have K1 := Lib.hid (K0.out.keep hb1)
  have K1o : Hid (∀ o, Blk w (.int .u32 (pa : Int)) (.int .i64 pb) (w1.alloc o)) := fun o => K1.out.keep ((Below.refl _ _).alloc (Nat.le_refl _) o)
  have c1 := Lib.hid (show (w1.alloc (.cells #[.int .u32 (ra : Int), .int .i64 (rb : Int)] 29)).cell? ⟨w1.heap.size, 0, none⟩ = some (.int .u32 (ra : Int)) ∧ (w1.alloc (.cells #[.int .u32 (ra : Int), .int .i64 (rb : Int)] 29)).cell? ⟨w1.heap.size, 1, none⟩ = some (.int .i64 (rb : Int)) from ⟨by simp [go_sem], by simp [go_sem]⟩)
  go_wp2_with fail
  refine (HB.out _ (K1o.out _).2.2.2.2).mono ?_; rintro e w2 ⟨rfl, hb2⟩
  have K2 := Lib.hid ((K1o.out _).keep hb2)
  have K2o : Hid (∀ o, Blk w (.int .u32 (pa : Int)) (.int .i64 pb) (w2.alloc o)) := fun o => K2.out.keep ((Below.refl _ _).alloc (Nat.le_refl _) o)
  have c2 := Lib.hid (show w2.cell? ⟨w1.heap.size, 0, none⟩ = some (.int .u32 (ra : Int)) ∧ w2.cell? ⟨w1.heap.size, 1, none⟩ = some (.int .i64 (rb : Int)) from ⟨N1.out _ _ _ _ hb2 c1.out.1, N1.out _ _ _ _ hb2 c1.out.2⟩)
  have c3 : Hid (∀ o, (w2.alloc o).cell? ⟨w1.heap.size, 0, none⟩ = some (.int .u32 (ra : Int)) ∧ (w2.alloc o).cell? ⟨w1.heap.size, 1, none⟩ = some (.int .i64 (rb : Int))) := fun o => ⟨N1.out _ _ _ _ ((Below.refl _ _).alloc (Nat.le_refl _) o) c2.out.1, N1.out _ _ _ _ ((Below.refl _ _).alloc (Nat.le_refl _) o) c2.out.2⟩
  have c4 := Lib.hid (show (w2.alloc (.cells #[.int .u32 (ra : Int), .int .i64 (rb : Int)] 29)).cell? ⟨w2.heap.size, 0, none⟩ = some (.int .u32 (ra : Int)) ∧ (w2.alloc (.cells #[.int .u32 (ra : Int), .int .i64 (rb : Int)] 29)).cell? ⟨w2.heap.size, 1, none⟩ = some (.int .i64 (rb : Int)) from ⟨by simp [go_sem], by simp [go_sem]⟩)
  have p2 : ∀ o, (w2.alloc o).cell? ⟨w.heap.size, 0, none⟩ = some (.int .u32 (pa : Int)) := fun o => (K2o.out o).1
  have p3 : ∀ o, (w2.alloc o).cell? ⟨w.heap.size, 1, none⟩ = some (.int .i64 pb) := fun o => (K2o.out o).2.1
  go_wp2_with fail
  refine (HC.out _ (K2o.out _).2.2.2.2).mono ?_; rintro e w3 ⟨rfl, hb3⟩
  have K3 := Lib.hid ((K2o.out _).keep hb3)
  have d1 := N1.out _ _ _ _ hb3 (c3.out _).1
  have d2 := N1.out _ _ _ _ hb3 (c3.out _).2
  have d3 := N1.out _ _ _ _ hb3 c4.out.1
  have d4 := N1.out _ _ _ _ hb3 c4.out.2
  obtain ⟨q0, q1, _, _, _⟩ := K3.out
  clear p2 p3 c1 c2 c3 c4
  generalize w1.heap.size = h1 at *
  generalize w2.heap.size = h2 at *
  go_wp2_with fail
  refine (HD.out _).mono ?_; rintro e w4 ⟨rfl, hb4⟩
  have K4 := Lib.hid (K3.out.keep hb4)
  have e1 := N1.out _ _ _ _ hb4 d1
  have e2 := N1.out _ _ _ _ hb4 d2
  have e3 := N1.out _ _ _ _ hb4 d3
  have e4 := N1.out _ _ _ _ hb4 d4
  clear q0 q1 d1 d2 d3 d4 HA HB HC HD K1 K1o K2 K2o
  obtain ⟨q0, q1, _, _, _⟩ := K4.out
  go_upto_region 5 with fail
  go_region_held3 (fun w' => w'.cell? ⟨w.heap.size, 0, none⟩ = some (.int .u32 (pa : Int)) ∧ w'.cell? ⟨w.heap.size, 1, none⟩ = some (.int .i64 pb) ∧ w'.cell? ⟨h1, 0, none⟩ = some (.int .u32 (ra : Int)) ∧ w'.cell? ⟨h1, 1, none⟩ = some (.int .i64 (rb : Int)) ∧ w'.cell? ⟨h2, 0, none⟩ = some (.int .u32 (ra : Int)) ∧ w'.cell? ⟨h2, 1, none⟩ = some (.int .i64 (rb : Int))) (go_keep) ((first
    | (go_at_call 16; refine (HE.out _).mono ?_; rintro e w5 ⟨rfl, hb5⟩; have g0 := N1.out _ _ ⟨w.heap.size, 0, none⟩ (.int .u32 (pa : Int)) hb5 (by simp [go_sem, *]); have g1 := N1.out _ _ ⟨w.heap.size, 1, none⟩ (.int .i64 pb) hb5 (by simp [go_sem, *]); have g2 := N1.out _ _ ⟨h1, 0, none⟩ (.int .u32 (ra : Int)) hb5 (by simp [go_sem, *]); have g3 := N1.out _ _ ⟨h1, 1, none⟩ (.int .i64 (rb : Int)) hb5 (by simp [go_sem, *]); have g4 := N1.out _ _ ⟨h2, 0, none⟩ (.int .u32 (ra : Int)) hb5 (by simp [go_sem, *]); have g5 := N1.out _ _ ⟨h2, 1, none⟩ (.int .i64 (rb : Int)) hb5 (by simp [go_sem, *]))
    | (go_at_call 17; refine (HF.out _).mono ?_; rintro e w6 ⟨rfl, hb6⟩; have i0 := N1.out _ _ ⟨w.heap.size, 0, none⟩ (.int .u32 (pa : Int)) hb6 (by simp [go_sem, *]); have i1 := N1.out _ _ ⟨w.heap.size, 1, none⟩ (.int .i64 pb) hb6 (by simp [go_sem, *]); have i2 := N1.out _ _ ⟨h1, 0, none⟩ (.int .u32 (ra : Int)) hb6 (by simp [go_sem, *]); have i3 := N1.out _ _ ⟨h1, 1, none⟩ (.int .i64 (rb : Int)) hb6 (by simp [go_sem, *]); have i4 := N1.out _ _ ⟨h2, 0, none⟩ (.int .u32 (ra : Int)) hb6 (by simp [go_sem, *]); have i5 := N1.out _ _ ⟨h2, 1, none⟩ (.int .i64 (rb : Int)) hb6 (by simp [go_sem, *]))
    | (go_at_call 18; refine (HG.out _).mono ?_; rintro e w7 ⟨rfl, hb7⟩; have j0 := N1.out _ _ ⟨w.heap.size, 0, none⟩ (.int .u32 (pa : Int)) hb7 (by simp [go_sem, *]); have j1 := N1.out _ _ ⟨w.heap.size, 1, none⟩ (.int .i64 pb) hb7 (by simp [go_sem, *]); have j2 := N1.out _ _ ⟨h1, 0, none⟩ (.int .u32 (ra : Int)) hb7 (by simp [go_sem, *]); have j3 := N1.out _ _ ⟨h1, 1, none⟩ (.int .i64 (rb : Int)) hb7 (by simp [go_sem, *]); have j4 := N1.out _ _ ⟨h2, 0, none⟩ (.int .u32 (ra : Int)) hb7 (by simp [go_sem, *]); have j5 := N1.out _ _ ⟨h2, 1, none⟩ (.int .i64 (rb : Int)) hb7 (by simp [go_sem, *]))
    | (go_at_call 19; refine (HH.out _).mono ?_; rintro e w8 ⟨rfl, hb8⟩; have k0 := N1.out _ _ ⟨w.heap.size, 0, none⟩ (.int .u32 (pa : Int)) hb8 (by simp [go_sem, *]); have k1 := N1.out _ _ ⟨w.heap.size, 1, none⟩ (.int .i64 pb) hb8 (by simp [go_sem, *]); have k2 := N1.out _ _ ⟨h1, 0, none⟩ (.int .u32 (ra : Int)) hb8 (by simp [go_sem, *]); have k3 := N1.out _ _ ⟨h1, 1, none⟩ (.int .i64 (rb : Int)) hb8 (by simp [go_sem, *]); have k4 := N1.out _ _ ⟨h2, 0, none⟩ (.int .u32 (ra : Int)) hb8 (by simp [go_sem, *]); have k5 := N1.out _ _ ⟨h2, 1, none⟩ (.int .i64 (rb : Int)) hb8 (by simp [go_sem, *]))))
  all_goals
    go_wp2
    go_ret
    exact ⟨by first | rfl | simp, ((((K4.out.drewN 1).keep hb5).keep hb6).keep hb7).keep hb8 |>.2.2.2.2⟩
end Go.Proofs.YthdmbggpokaggaaDoor
