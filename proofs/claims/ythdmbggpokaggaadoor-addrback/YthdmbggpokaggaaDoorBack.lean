/-
  The walk of AddrBack.
-/
import Derived.Test.YthdmbggpokaggaaDoorPref
import Derived.Deep.CutRange
namespace Go.Proofs.YthdmbggpokaggaaDoor
open Go.RowKit
set_option linter.unusedVariables false

set_option maxRecDepth 100000 in
set_option maxHeartbeats 4000000 in
theorem back_walk (a pa : Nat) (pb : Int) (l : List UInt8) (w : World) (ha : a < 4294967296) (hpa : pa < 4294967296) (hl : l.length ≤ 281474976710656) (hp : Pow w) :
    Calls Tryd.prog 6 #[.int .u32 a, .agg #[.int .u32 pa, .int .i64 pb], .string ⟨l.toArray⟩] w fun e w' => e = .returned (.bool true) ∧ Below w.heap.size w w' := by
  have PK : Hid (∀ W, Below w.heap.size w W → Pow W) := fun W hb => hp.keep hb
  have HPr : Hid (∀ (c : Nat) w', c < 4294967296 → Below w.heap.size w w' → Calls Tryd.prog 10 #[.int .u32 c] w' fun e w'' => e = .returned (.string ⟨(prtL c).toArray⟩) ∧ Below w'.heap.size w' w'') := fun c w' hc hb => print_any c hc w' (PK.out _ hb)
  have HPa : Hid (∀ w', Calls Tryd.prog 8 #[.string ⟨(prtL a).toArray⟩] w' fun e w'' => e = .returned (.tuple #[.int .u32 a, .int .i64 0]) ∧ ∃ n, w'' = w'.drewN n) := fun w' => by
    have := parse_any (prtL a) w' (by have := prt_len a ha; omega)
    rwa [parse_print a ha] at this
  have HPs : Hid (∀ w', Calls Tryd.prog 8 #[.string ⟨l.toArray⟩] w' fun e w'' => e = .returned (ended (parseL l)) ∧ ∃ n, w'' = w'.drewN n) := fun w' => parse_any l w' hl
  have HPp : Hid (∀ w', Calls Tryd.prog 12 #[.string ⟨l.toArray⟩] w' fun e w'' => e = .returned (pended (pparseL l)) ∧ Below w'.heap.size w' w'') := fun w' => pparse_any l w' hl
  have HBl := Lib.hid (blk_new w (.int .u32 (pa : Int)) (.int .i64 pb))
  clear hp
  go_enter Tryd.func6, Tryd.ntmps6
  go_wp2_with fail
  refine (HPr.out a _ ha HBl.out.2.2.2.2).mono ?_; rintro e w1 ⟨rfl, hb1⟩
  have K1 := Lib.hid (HBl.out.keep hb1)
  go_wp2_with fail
  refine (HPa.out _).mono ?_; rintro e w2 ⟨rfl, q2, rfl⟩
  have K2 := Lib.hid (K1.out.drewN q2)
  generalize w1.drewN q2 = W2 at *
  go_wp2_with fail
  refine (HPs.out _).mono ?_; rintro e w3 ⟨rfl, q3, rfl⟩
  have K3 := Lib.hid (K2.out.drewN q3)
  generalize W2.drewN q3 = W3 at *
  clear K1 K2 HBl hb1 HPa HPs
  have hend : ∃ (V : Nat) (E : Int), ended (parseL l) = .tuple #[.int .u32 (V : Int), .int .i64 E] ∧ ((V = 0 ∧ E = 4) ∨ (l = prtL V ∧ V < 4294967296 ∧ E = 0)) := by
    cases h : parseL l with
    | none => exact ⟨0, 4, rfl, .inl ⟨rfl, rfl⟩⟩
    | some c => exact ⟨c, 0, rfl, .inr ⟨(print_parse h).1, (print_parse h).2, rfl⟩⟩
  obtain ⟨V, E, hend, ht⟩ := hend
  have HT := Lib.hid ht
  rw [hend]
  clear hend ht
  go_upto_region 3 with fail
  go_cut [50] from 26 (fun b wc => b = .bool false ∧ Blk w (.int .u32 (pa : Int)) (.int .i64 pb) wc)
  case first =>
    rcases HT.out with ⟨h1, h2⟩ | ⟨h1, h2, h3⟩
    · have e1 : (E == 0) = false := by rw [h2]; rfl
      have e2 : (E != 0) = true := by rw [h2]; rfl
      have e3 : ((V : Int) != 0) = false := by rw [h1]; rfl
      clear h1 h2 HT
      go_wp2_with fail
      go_meet
      exact ⟨by simp, K3.out⟩
    · have e1 : (E == 0) = true := by rw [h3]; rfl
      have e2 : (E != 0) = false := by rw [h3]; rfl
      have hb3 := K3.out.2.2.2.2
      clear HT h3
      subst h1
      go_wp2_with fail
      refine (HPr.out V _ h2 hb3).mono ?_; rintro e w4 ⟨rfl, hb4⟩
      have K4 := Lib.hid (K3.out.keep hb4)
      go_wp2_with fail
      go_meet
      exact ⟨by simp, K4.out⟩
  case rest =>
    obtain ⟨rfl, kk⟩ := hcut
    have K5 := Lib.hid kk
    obtain ⟨p0, p1, f0, f1, hb5⟩ := kk
    clear K3 HT HPr
    go_upto_region 5 with fail
    have N1 : Hid (∀ W W1 : World, ∀ (p : Addr) (v : Value), Below W.heap.size W W1 → W.cell? p = some v → W1.cell? p = some v) := fun W W1 p v hb hc => by
      rw [hb.cell (World.block_lt_of_cell? W _ hc)]; exact hc
    by_cases hc : chk pa pb = 0
    · obtain ⟨hc0, hc1, hc2⟩ := chk_ok hc
      obtain ⟨n, rfl⟩ := Int.eq_ofNat_of_zero_le hc0
      have hn : n ≤ 32 := by omega
      have HY : Hid (∀ w', Below w.heap.size w w' → Calls Tryd.prog 14 #[.agg #[.int .u32 pa, .int .i64 n]] w' fun e w'' => e = .returned (.tuple #[.string ⟨(pprtL pa n).toArray⟩, .int .i64 0]) ∧ Below w'.heap.size w' w'') := fun w' hb => pprint_yes pa n w' hpa hn hc (PK.out _ hb)
      have HQ : Hid (∀ w', Calls Tryd.prog 12 #[.string ⟨(pprtL pa n).toArray⟩] w' fun e w'' => e = .returned (.tuple #[.agg #[.int .u32 pa, .int .i64 n], .int .i64 0]) ∧ Below w'.heap.size w' w'') := fun w' => by
        have hlen : (pprtL pa n).length ≤ 281474976710656 := by
          have := prt_len pa hpa
          have := dec_len n (by omega)
          unfold pprtL; simp; omega
        have := pparse_any (pprtL pa n) w' hlen
        rwa [pparse_print pa n hpa hn hc] at this
      have hend : ∃ (ra rb : Nat) (E : Int), pended (pparseL l) = .tuple #[.agg #[.int .u32 (ra : Int), .int .i64 (rb : Int)], .int .i64 E] ∧ ((E = 4) ∨ (E = 0 ∧ chk ra (rb : Int) = 0 ∧ ra < 4294967296)) := by
        cases h : pparseL l with
        | none => exact ⟨0, 0, 4, rfl, .inl rfl⟩
        | some r => exact ⟨r.1, r.2, 0, rfl, .inr ⟨rfl, (pparse_fine h).1, (pparse_fine h).2.1⟩⟩
      obtain ⟨ra, rb, E, hend, ht⟩ := hend
      rw [hend] at HPp
      clear hend hc hc0 hc1 hc2 PK
      have HT := Lib.hid ht
      clear ht
      go_wp2_with fail
      refine (HY.out _ hb5).mono ?_; rintro e w6 ⟨rfl, hb6⟩
      have K6 := Lib.hid (K5.out.keep hb6)
      clear p0 p1 f0 f1
      go_wp2_with fail
      refine (HQ.out _).mono ?_; rintro e w7 ⟨rfl, hb7⟩
      have K7 := Lib.hid (K6.out.keep hb7)
      clear K5 K6
      go_wp2_with fail
      refine (HPp.out _).mono ?_; rintro e w8 ⟨rfl, hb8⟩
      have K8 := Lib.hid ((K7.out.keep ((Below.refl _ _).alloc (Nat.le_refl _) _)).keep hb8)
      have q0 : w8.cell? ⟨w7.heap.size, 0, none⟩ = some (.int .u32 (pa : Int)) := (hb8.cell (p := ⟨w7.heap.size, 0, none⟩) (by simp)).trans (by simp [go_sem])
      have q1 : w8.cell? ⟨w7.heap.size, 1, none⟩ = some (.int .i64 (n : Int)) := (hb8.cell (p := ⟨w7.heap.size, 1, none⟩) (by simp)).trans (by simp [go_sem])
      have K9 : Hid (∀ o, Blk w (.int .u32 (pa : Int)) (.int .i64 (n : Int)) (w8.alloc o)) := fun o => K8.out.keep ((Below.refl _ _).alloc (Nat.le_refl _) o)
      have q2 : ∀ o, (w8.alloc o).cell? ⟨w7.heap.size, 0, none⟩ = some (.int .u32 (pa : Int)) := fun o => N1.out _ _ _ _ ((Below.refl _ _).alloc (Nat.le_refl _) o) q0
      have q3 : ∀ o, (w8.alloc o).cell? ⟨w7.heap.size, 1, none⟩ = some (.int .i64 (n : Int)) := fun o => N1.out _ _ _ _ ((Below.refl _ _).alloc (Nat.le_refl _) o) q1
      have p2 : ∀ o, (w8.alloc o).cell? ⟨w.heap.size, 0, none⟩ = some (.int .u32 (pa : Int)) := fun o => (K9.out o).1
      have p3 : ∀ o, (w8.alloc o).cell? ⟨w.heap.size, 1, none⟩ = some (.int .i64 (n : Int)) := fun o => (K9.out o).2.1
      clear q0 q1
      rcases HT.out with h1 | ⟨h1, h2, h3⟩
      · subst h1
        go_wp2
        go_ret
        exact ⟨rfl, (K9.out _).2.2.2.2⟩
      · subst h1
        have HKr : Hid (∀ w', Calls Tryd.prog 16 #[.agg #[.int .u32 ra, .int .i64 rb]] w' fun e w'' => e = .returned (.int .i64 0) ∧ Below w'.heap.size w' w'') := fun w' => by
          have := check_any ra rb w' h3
          rwa [h2] at this
        clear h2 HT
        go_wp2_with fail
        refine (HKr.out _).mono ?_; rintro e w9 ⟨rfl, hb9⟩
        have K10 := (K9.out _).keep hb9
        go_wp2
        go_ret
        exact ⟨rfl, K10.2.2.2.2⟩
    · have HY : Hid (∀ w', Calls Tryd.prog 14 #[.agg #[.int .u32 pa, .int .i64 pb]] w' fun e w'' => e = .returned (.tuple #[.string ByteArray.empty, .int .i64 (chk pa pb)]) ∧ Below w'.heap.size w' w'') := fun w' => pprint_no pa pb w' hpa hc
      have HQ : Hid (∀ w', Calls Tryd.prog 12 #[.string ByteArray.empty] w' fun e w'' => e = .returned (.tuple #[.agg #[.int .u32 0, .int .i64 0], .int .i64 4]) ∧ Below w'.heap.size w' w'') := fun w' => pparse_any [] w' (by simp)
      have HK : Hid (∀ w', Calls Tryd.prog 16 #[.agg #[.int .u32 pa, .int .i64 pb]] w' fun e w'' => e = .returned (.int .i64 (chk pa pb)) ∧ Below w'.heap.size w' w'') := fun w' => check_any pa pb w' hpa
      have hz : (chk pa pb == 0) = false := by simpa using hc
      generalize chk pa pb = C at *
      clear hc PK HPp
      go_wp2_with fail
      refine (HY.out _).mono ?_; rintro e w6 ⟨rfl, hb6⟩
      have K6 := Lib.hid (K5.out.keep hb6)
      clear p0 p1 f0 f1
      go_wp2_with fail
      refine (HQ.out _).mono ?_; rintro e w7 ⟨rfl, hb7⟩
      have K7 : Hid (∀ o, Blk w (.int .u32 (pa : Int)) (.int .i64 pb) (w7.alloc o)) := fun o => (K6.out.keep hb7).keep ((Below.refl _ _).alloc (Nat.le_refl _) o)
      have p2 : ∀ o, (w7.alloc o).cell? ⟨w.heap.size, 0, none⟩ = some (.int .u32 (pa : Int)) := fun o => (K7.out o).1
      have p3 : ∀ o, (w7.alloc o).cell? ⟨w.heap.size, 1, none⟩ = some (.int .i64 pb) := fun o => (K7.out o).2.1
      go_wp2_with fail
      refine (HK.out _).mono ?_; rintro e w8 ⟨rfl, hb8⟩
      have K8 := (K7.out _).keep hb8
      go_wp2
      go_ret
      exact ⟨rfl, K8.2.2.2.2⟩
end Go.Proofs.YthdmbggpokaggaaDoor
