/-
  The contract of the document's answer's PrefixParse.
-/
import Derived.Test.YthdmbggpokaggaaDoorRefX
namespace Go.Proofs.YthdmbggpokaggaaDoor
open Go.RowKit
set_option linter.unusedVariables false

theorem pcs_two (l : List UInt8) : ((pcs 47 l).length ≠ 2 ∧ pparseL l = none) ∨ pcs 47 l = [(cutL 47 l).1, (cutL 47 l).2.1] := by
  cases h : (cutL 47 l).2.2
  · have h1 := pcs_miss 47 l h
    left
    refine ⟨by rw [h1.1]; simp, ?_⟩
    have h2 := ((cutL_back 47 l).2.2 h).2
    unfold pparseL
    rw [h2]; rfl
  · have h1 := pcs_hit 47 l h
    cases h2 : (cutL 47 (cutL 47 l).2.1).2.2
    · right
      rw [h1.1, (pcs_miss 47 _ h2).1]
    · left
      have h3 := pcs_hit 47 _ h2
      have h4 := (pcs_facts 47 _ (cutL 47 (cutL 47 l).2.1).2.1 (Nat.le_refl _)).1
      refine ⟨by rw [h1.1, h3.1]; simp only [List.length_cons]; omega, ?_⟩
      unfold pparseL
      cases hn : numL 32 (cutL 47 l).2.1 with
      | none => rfl
      | some n =>
        exfalso
        have h5 := (dec_of_numL hn).1
        have h6 : 47 ∉ (cutL 47 l).2.1 := by rw [h5]; exact dec_no (by decide) _
        rw [cutL_miss 47 _ h6] at h2
        cases h2

theorem split_new (w : World) (l : List UInt8) (m : Int) (hl : l.length < 4294967281) (hm : w.cell? ⟨1, 0, none⟩ = some (.int .i64 m)) :
    ∃ (z : Nat) (W1 : World), Calls Tryd.prog 25 #[.string ⟨l.toArray⟩, .string ⟨#[47]⟩] (w.alloc (.cells #[.int .u32 0, .int .i64 0] 29)) (fun e w'' => e = .returned (.slice (some ⟨z, 0, none⟩) (pcs 47 l).length (pcs 47 l).length) ∧ w'' = W1) ∧
      Blk w (.int .u32 0) (.int .i64 0) W1 ∧ W1.cell? ⟨1, 0, none⟩ = some (.int .i64 m) ∧ ∀ (k : Nat) (hk : k < (pcs 47 l).length), W1.cell? ⟨z, k, none⟩ = some (.string ⟨(pcs 47 l)[k].toArray⟩) := by
  have hb0 : Below w.heap.size w (w.alloc (.cells #[.int .u32 0, .int .i64 0] 29)) := (Below.refl _ _).alloc (Nat.le_refl _) _
  have hm0 : (w.alloc (.cells #[.int .u32 0, .int .i64 0] 29)).cell? ⟨1, 0, none⟩ = some (.int .i64 m) := by
    rw [hb0.cell (World.block_lt_of_cell? w _ hm)]; exact hm
  have K0 := blk_new w (.int .u32 0) (.int .i64 0)
  generalize w.alloc (.cells #[.int .u32 0, .int .i64 0] 29) = Wa at *
  have hb1 : Below Wa.heap.size Wa (Wa.alloc (.cells ((pcs 47 l).map fun p => Value.string ⟨p.toArray⟩).toArray 9)) := (Below.refl _ _).alloc (Nat.le_refl _) _
  refine ⟨Wa.heap.size, Wa.alloc (.cells ((pcs 47 l).map fun p => Value.string ⟨p.toArray⟩).toArray 9), ?_, K0.keep hb1, ?_, fun k hk => ?_⟩
  · have := Tryd.strings_Split ⟨l.toArray⟩ ⟨#[47]⟩ m Wa (by rw [ba_size]; omega) hm0 (by decide)
    rw [pcs_cells] at this
    have hc : Lib.countB ⟨l.toArray⟩ ⟨#[47]⟩ + 1 = (pcs 47 l).length := by rw [(pcs_facts 47 _ l (Nat.le_refl _)).1]
    rw [hc] at this
    exact this
  · rw [hb1.cell (World.block_lt_of_cell? Wa _ hm0)]; exact hm0
  · have := World.cell?_alloc_mark Wa ((pcs 47 l).map fun p => Value.string ⟨p.toArray⟩).toArray 9 (0, 0) k
    refine this.trans ?_
    simp [List.getElem?_eq_getElem hk]

set_option maxHeartbeats 2000000 in
theorem rpparse_any (l : List UInt8) (m : Int) (w : World) (hl : l.length < 4294967281) (hm : w.cell? ⟨1, 0, none⟩ = some (.int .i64 m)) :
    Calls Tryd.prog 13 #[.string ⟨l.toArray⟩] w fun e w' => e = .returned (pended (pparseL l)) ∧ Below w.heap.size w w' := by
  obtain ⟨z, W1, hs, hK, hm1, hcell⟩ := split_new w l m hl hm
  have HS := Lib.hid hs
  have K1 := Lib.hid hK
  have hP := pcs_two l
  have hlen := (pcs_facts 47 _ l (Nat.le_refl _)).1
  have hcl := Lib.count_le l [47]
  have HLn : Hid ((pcs 47 l).length ≤ 4294967290) := by show _ ≤ _; rw [hlen]; omega
  clear hlen hcl hs hK hm
  rcases hP with ⟨h2, hp⟩ | h2
  · have hp := Lib.hid hp
    clear hcell hm1
    have h2' : (((pcs 47 l).length : Int) == 2) = false := by simp; omega
    have h2'' : ¬ ((pcs 47 l).length : Int) = 2 := by omega
    generalize (pcs 47 l).length = N at *
    go_enter Tryd.func13, Tryd.ntmps13
    go_wp2_with fail
    refine HS.out.mono ?_; rintro e w1 ⟨rfl, rfl⟩
    obtain ⟨p0, p1, f0, f1, _⟩ := K1.out
    go_wp2
    have K2 := K1.out.put (.int .u32 0) (.int .i64 0)
    generalize ((w1.setCell ⟨w.heap.size, 0, none⟩ (.int .u32 0)).setCell ⟨w.heap.size, 1, none⟩ (.int .i64 0)) = W2 at *
    clear p0 p1 f0 f1
    obtain ⟨p0, p1, _, _, hb⟩ := K2
    exact bodyPost_ret (v := .tuple #[.agg #[.int .u32 0, .int .i64 0], .int .i64 4]) (by simp [results, Tryd.results13, go_sem, p0, p1]) rfl ⟨by rw [hp.out]; rfl, hb⟩
  · have hll := cutL_len 47 l
    have c0 := hcell 0 (by rw [h2]; simp)
    have c1 := hcell 1 (by rw [h2]; simp)
    simp only [h2, List.getElem_cons_zero, List.getElem_cons_succ] at c0 c1
    rw [h2] at HS
    have HSx : Hid (Calls Tryd.prog 25 #[.string ⟨l.toArray⟩, .string ⟨#[47]⟩] (w.alloc (.cells #[.int .u32 0, .int .i64 0] 29)) (fun e w'' => e = .returned (.slice (some ⟨z, 0, none⟩) 2 2) ∧ w'' = W1)) := HS.out
    clear hcell HS HLn h2
    have HR : Hid (pparseL l = match numL 32 (cutL 47 l).2.1 with | none => none | some n => match parseL (cutL 47 l).1 with | none => none | some a => if chk a (n : Int) = 0 then some (a, n) else none) := rfl
    have HA : Hid (Calls Tryd.prog 9 #[.string ⟨(cutL 47 l).1.toArray⟩] W1 fun e w'' => e = .returned (ended (parseL (cutL 47 l).1)) ∧ Below W1.heap.size W1 w'') := rparse_any _ m W1 (by omega) hm1
    have HCn : Hid (∀ w', Calls Tryd.prog 26 #[.string ⟨(cutL 47 l).2.1.toArray⟩, .int .i64 32] w' fun e w'' => e = .returned (.int .i64 (cnt 32 (cutL 47 l).2.1)) ∧ w'' = w') := fun w' => count_any 32 _ w' (by omega) (by omega)
    have HN2 : Hid (∀ n, numL 32 (cutL 47 l).2.1 = some n → n ≤ 32) := fun n h => (dec_of_numL h).2
    have HP2 : Hid (∀ n, parseL (cutL 47 l).1 = some n → n < 4294967296) := fun n h => (print_parse h).2
    have HK : Hid (∀ (a n : Nat) w', a < 4294967296 → Calls Tryd.prog 17 #[.agg #[.int .u32 a, .int .i64 n]] w' fun e w'' => e = .returned (.int .i64 (chk a n)) ∧ Below w'.heap.size w' w'') := fun a n w' h => rcheck_any a n w' h
    have N1 : Hid (∀ W W1 : World, ∀ (p : Addr) (v : Value), Below W.heap.size W W1 → W.cell? p = some v → W1.cell? p = some v) := fun W W1 p v hb hc => by
      rw [hb.cell (World.block_lt_of_cell? W _ hc)]; exact hc
    generalize cutL 47 l = R at *
    obtain ⟨A, B, D⟩ := R
    simp only at HA HCn HR HN2 HP2 c0 c1
    clear hm1 hll
    rcases hy : parseL A with _ | a
    · have hp := Lib.hid (show pparseL l = none by rw [HR.out]; cases numL 32 B <;> simp [hy])
      rw [hy] at HA
      have HA2 : Hid (Calls Tryd.prog 9 #[.string ⟨A.toArray⟩] W1 fun e w'' => e = .returned (.tuple #[.int .u32 0, .int .i64 4]) ∧ Below W1.heap.size W1 w'') := HA.out
      have HCx : Hid (∃ c : Int, ∀ w', Calls Tryd.prog 26 #[.string ⟨B.toArray⟩, .int .i64 32] w' fun e w'' => e = .returned (.int .i64 c) ∧ w'' = w') := ⟨_, HCn.out⟩
      obtain ⟨c, hcx⟩ := HCx.out
      have HCy := Lib.hid hcx
      clear hy HR HN2 HP2 HA HCn HK HCx hcx
      go_enter Tryd.func13, Tryd.ntmps13
      go_wp2_with fail
      refine HSx.out.mono ?_; rintro e w1 ⟨rfl, rfl⟩
      go_wp2_with fail
      refine HA2.out.mono ?_; rintro e w2 ⟨rfl, hb2⟩
      have d1 := N1.out _ _ _ _ hb2 c1
      have K2 := Lib.hid (K1.out.keep hb2)
      go_wp2_with fail
      refine (HCy.out _).mono ?_; rintro e w3 ⟨rfl, hw⟩; rw [hw]; clear hw w3
      obtain ⟨p0, p1, f0, f1, _⟩ := K2.out
      go_wp2
      have K3 := K2.out.put (.int .u32 0) (.int .i64 0)
      generalize ((w2.setCell ⟨w.heap.size, 0, none⟩ (.int .u32 0)).setCell ⟨w.heap.size, 1, none⟩ (.int .i64 0)) = W2 at *
      clear p0 p1 f0 f1
      obtain ⟨p0, p1, _, _, hb⟩ := K3
      exact bodyPost_ret (v := .tuple #[.agg #[.int .u32 0, .int .i64 0], .int .i64 4]) (by simp [results, Tryd.results13, go_sem, p0, p1]) rfl ⟨by rw [hp.out]; rfl, hb⟩
    · have ha := HP2.out a hy
      rw [hy] at HA
      have HA2 : Hid (Calls Tryd.prog 9 #[.string ⟨A.toArray⟩] W1 fun e w'' => e = .returned (.tuple #[.int .u32 a, .int .i64 0]) ∧ Below W1.heap.size W1 w'') := HA.out
      rcases hx : numL 32 B with _ | n
      · have hp := Lib.hid (show pparseL l = none by rw [HR.out, hx])
        rw [cnt_none hx] at HCn
        clear hx hy HR HN2 HP2 HA HK
        go_enter Tryd.func13, Tryd.ntmps13
        go_wp2_with fail
        refine HSx.out.mono ?_; rintro e w1 ⟨rfl, rfl⟩
        go_wp2_with fail
        refine HA2.out.mono ?_; rintro e w2 ⟨rfl, hb2⟩
        have d1 := N1.out _ _ _ _ hb2 c1
        have K2 := Lib.hid (K1.out.keep hb2)
        go_wp2_with fail
        refine (HCn.out _).mono ?_; rintro e w3 ⟨rfl, hw⟩; rw [hw]; clear hw w3
        obtain ⟨p0, p1, f0, f1, _⟩ := K2.out
        go_wp2
        have K3 := K2.out.put (.int .u32 0) (.int .i64 0)
        generalize ((w2.setCell ⟨w.heap.size, 0, none⟩ (.int .u32 0)).setCell ⟨w.heap.size, 1, none⟩ (.int .i64 0)) = W2 at *
        clear p0 p1 f0 f1
        obtain ⟨p0, p1, _, _, hb⟩ := K3
        exact bodyPost_ret (v := .tuple #[.agg #[.int .u32 0, .int .i64 0], .int .i64 4]) (by simp [results, Tryd.results13, go_sem, p0, p1]) rfl ⟨by rw [hp.out]; rfl, hb⟩
      · have hn := HN2.out n hx
        rw [cnt_some hx] at HCn
        have HKk := Lib.hid (fun w' => HK.out a n w' ha)
        have HE := Lib.hid (show pparseL l = if chk a (n : Int) = 0 then some (a, n) else none by rw [HR.out, hx]; simp only; rw [hy])
        clear hx hy HR HN2 HP2 HA HK
        go_enter Tryd.func13, Tryd.ntmps13
        go_wp2_with fail
        refine HSx.out.mono ?_; rintro e w1 ⟨rfl, rfl⟩
        go_wp2_with fail
        refine HA2.out.mono ?_; rintro e w2 ⟨rfl, hb2⟩
        have d1 := N1.out _ _ _ _ hb2 c1
        have K2 := Lib.hid (K1.out.keep hb2)
        go_wp2_with fail
        refine (HCn.out _).mono ?_; rintro e w3 ⟨rfl, hw⟩; rw [hw]; clear hw w3
        go_wp2_with fail
        refine (HKk.out _).mono ?_; rintro e w4 ⟨rfl, hb4⟩
        have K3 := Lib.hid (K2.out.keep hb4)
        obtain ⟨p0, p1, f0, f1, _⟩ := K3.out
        by_cases hc : chk a (n : Int) = 0
        · have hp := Lib.hid (show pparseL l = some (a, n) by rw [HE.out, if_pos hc])
          rw [hc]
          clear HE hc HKk
          go_wp2
          have K4 := K3.out.put (.int .u32 (a : Int)) (.int .i64 (n : Int))
          generalize ((w4.setCell ⟨w.heap.size, 0, none⟩ (.int .u32 (a : Int))).setCell ⟨w.heap.size, 1, none⟩ (.int .i64 (n : Int))) = W4 at *
          clear p0 p1 f0 f1
          obtain ⟨p0, p1, _, _, hb⟩ := K4
          exact bodyPost_ret (v := .tuple #[.agg #[.int .u32 (a : Int), .int .i64 (n : Int)], .int .i64 0]) (by simp [results, Tryd.results13, go_sem, p0, p1]) rfl ⟨by rw [hp.out]; rfl, hb⟩
        · have hp := Lib.hid (show pparseL l = none by rw [HE.out, if_neg hc])
          have hz : (chk a (n : Int) == 0) = false := by simpa using hc
          have hz2 : (chk a (n : Int) != 0) = true := by simpa using hc
          have hz3 : ¬ (n : Int) < 0 := by omega
          clear HE hc HKk
          generalize chk a (n : Int) = C at *
          go_wp2
          have K4 := K3.out.put (.int .u32 0) (.int .i64 0)
          generalize ((w4.setCell ⟨w.heap.size, 0, none⟩ (.int .u32 0)).setCell ⟨w.heap.size, 1, none⟩ (.int .i64 0)) = W4 at *
          clear p0 p1 f0 f1
          obtain ⟨p0, p1, _, _, hb⟩ := K4
          exact bodyPost_ret (v := .tuple #[.agg #[.int .u32 0, .int .i64 0], .int .i64 4]) (by simp [results, Tryd.results13, go_sem, p0, p1]) rfl ⟨by rw [hp.out]; rfl, hb⟩
end Go.Proofs.YthdmbggpokaggaaDoor
