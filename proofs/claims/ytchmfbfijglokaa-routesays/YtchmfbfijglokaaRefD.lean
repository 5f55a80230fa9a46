/-
  Contract of the document's Drop of a table.
-/
import Derived.Test.YtchmfbfijglokaaRefF
import Derived.Deep.RegionLaw
namespace Go.Proofs.Ytchmfbfijglokaa
open Go.RowKit
set_option linter.unusedVariables false

theorem slice_to (o : Option Addr) (n cap k : Nat) (w : World) (hk : k ≤ cap) :
    (Instr.slice 27 (.slice o n cap) none (some (.int .i64 (k : Int))) none).run Try.prog w = .ok (.slice o k cap) w := by
  have h1 : (0 : Int) ≤ (k : Int) ∧ (k : Int) ≤ (cap : Int) := by omega
  have h2 : (if cap = 0 then o else o.map (·.add 0)) = o := by
    split
    · rfl
    · cases o <;> simp [Addr.add]
  have h3 : (Try.prog.info? 67).map (·.size) = some 3 := by kernel_rfl
  cases hq : Try.prog.info? 67 with
  | none => simp [hq] at h3
  | some i =>
    simp [Instr.slice, Instr.sliceBounds, Instr.sliceBound, run_underlying Try.underlying27, asIntOf, sizeOf, typeInfo, hq, h1, go_sem]
    intro h; omega
theorem slice_from (g n cap k : Nat) (q : Int) (w : World) (hq : q = (k : Int)) (hk : k ≤ n) (hn : n ≤ cap) :
    (Instr.slice 27 (.slice (some ⟨g, 0, none⟩) n cap) (some (.int .i64 q)) none none).run Try.prog w = .ok (.slice (some (if cap = k then ⟨g, 0, none⟩ else ⟨g, k * 3, none⟩)) (n - k) (cap - k)) w := by
  subst hq
  have h1 : (0 : Int) ≤ (k : Int) ∧ (k : Int) ≤ (n : Int) := by omega
  have h3 : (Try.prog.info? 67).map (·.size) = some 3 := by kernel_rfl
  cases hq : Try.prog.info? 67 with
  | none => simp [hq] at h3
  | some i =>
    have hs : i.size = 3 := by simpa [hq] using h3
    by_cases hc : cap = k
    · simp [Instr.slice, Instr.sliceBounds, Instr.sliceBound, run_underlying Try.underlying27, asIntOf, sizeOf, typeInfo, hq, hs, h1, go_sem, hc]
      intro h; omega
    · simp [Instr.slice, Instr.sliceBounds, Instr.sliceBound, run_underlying Try.underlying27, asIntOf, sizeOf, typeInfo, hq, hs, h1, go_sem, hc]
      intro h; omega

/-- The rows of a table, as append takes them. -/
theorem src_of {W : World} {g off : Nat} {M : List Ent} (h : ∀ i e, M[i]? = some e → W.cell? ⟨g, off + i * 3, none⟩ = some (.int .u32 (e.a : Int)) ∧ W.cell? ⟨g, off + (i * 3 + 1), none⟩ = some (.int .i64 (e.b : Int)) ∧ W.cell? ⟨g, off + (i * 3 + 2), none⟩ = some (.int .i64 e.v)) : Src W (some ⟨g, off, none⟩) M.length (rcells M) := by
  refine ⟨rcells_length M, rcells_one M, (fun h => by cases h), fun ad ho j u hu => ?_⟩
  obtain rfl : ⟨g, off, none⟩ = ad := Option.some.inj ho
  have hj : j < M.length * 3 := by have := (List.getElem?_eq_some_iff.1 hu).1; rwa [rcells_length] at this
  obtain ⟨e, he⟩ : ∃ e, M[j / 3]? = some e := ⟨M[j / 3]'(by omega), List.getElem?_eq_getElem _⟩
  obtain ⟨h1, h2, h3⟩ := h _ e he
  obtain ⟨r1, r2, r3⟩ := rcells_get M _ e he
  rw [show (⟨g, off, none⟩ : Addr).add j = ⟨g, off + j, none⟩ from by unfold Addr.add; split <;> simp_all]
  rcases (show j = j / 3 * 3 ∨ j = j / 3 * 3 + 1 ∨ j = j / 3 * 3 + 2 by omega) with hd | hd | hd
  · rw [hd] at hu ⊢; rw [r1] at hu; rw [← hu]; exact h1
  · rw [hd] at hu ⊢; rw [r2] at hu; rw [← hu]; exact h2
  · rw [hd] at hu ⊢; rw [r3] at hu; rw [← hu]; exact h3
theorem Row3.src_take {W : World} {g : Nat} {L : List Ent} (h : Row3 W (some ⟨g, 0, none⟩) g L) (hp : 0 < L.length) (k : Nat) (hk : k ≤ L.length) : Src W (some ⟨g, 0, none⟩) k (rcells (L.take k)) := by
  obtain ⟨_, _, hc⟩ := h hp
  have := src_of (W := W) (g := g) (off := 0) (M := L.take k) fun i e he => by
    have he' : L[i]? = some e := by
      rw [List.getElem?_take] at he
      split at he
      · exact he
      · cases he
    simpa using hc i e he'
  rwa [List.length_take, Nat.min_eq_left hk] at this
theorem Row3.src_drop {W : World} {g : Nat} {L : List Ent} (h : Row3 W (some ⟨g, 0, none⟩) g L) (hp : 0 < L.length) (cap k : Nat) (hk : k ≤ L.length) (hn : L.length ≤ cap) : Src W (some (if cap = k then ⟨g, 0, none⟩ else ⟨g, k * 3, none⟩)) (L.length - k) (rcells (L.drop k)) := by
  obtain ⟨_, _, hc⟩ := h hp
  by_cases he : cap = k
  · rw [if_pos he]
    have h0 : L.drop k = [] := by rw [List.drop_eq_nil_iff]; omega
    rw [h0, show L.length - k = 0 from by omega]
    exact ⟨rfl, (fun c hc => by cases hc), fun _ => rfl, fun ad _ j u hu => by simp [rcells] at hu⟩
  · rw [if_neg he]
    have := src_of (W := W) (g := g) (off := k * 3) (M := L.drop k) fun i e he => by
      have he' : L[k + i]? = some e := by rwa [List.getElem?_drop] at he
      have := hc (k + i) e he'
      rw [show (k + i) * 3 = k * 3 + i * 3 from by omega] at this
      rw [show k * 3 + (i * 3 + 1) = k * 3 + i * 3 + 1 from by omega, show k * 3 + (i * 3 + 2) = k * 3 + i * 3 + 2 from by omega]
      exact this
    rwa [List.length_drop] at this
theorem own_form {w : World} {B e size n : Nat} {v : Value} {xs : List Value} (h : w.ownsRow B e size v n xs) : ∃ o c, v = .slice o n c := by
  rcases h.2 with ⟨rfl, rfl⟩ | ⟨g, cap, cur, rfl, _⟩
  · exact ⟨none, 0, rfl⟩
  · exact ⟨_, cap, rfl⟩
theorem del_at {L : List Ent} (hg : Good L) {k : Nat} {x : Ent} (h : L[k]? = some x) : delE x.a x.b L = L.take k ++ L.drop (k + 1) := by
  have hs := hg.sorted
  rw [← List.take_append_drop k L, drop_step h] at hs
  rw [List.pairwise_append, List.pairwise_cons] at hs
  have e : L = L.take k ++ x :: L.drop (k + 1) := by rw [← drop_step h, List.take_append_drop]
  have e2 : delE x.a x.b L = delE x.a x.b (L.take k ++ x :: L.drop (k + 1)) := by rw [← e]
  rw [e2, delE_append, del_first (List.pairwise_cons.2 hs.2.1), delE_same]
  intro y hy hh
  have := hs.2.2 y hy x List.mem_cons_self
  unfold Ent.lt at this
  omega

set_option maxHeartbeats 4000000 in
set_option maxRecDepth 100000 in
theorem rdrop_any (rb g cap : Nat) (o : Option Addr) (L : List Ent) (pa : Nat) (pb : Int) (w : World) (hpa : pa < 4294967296) (h : RT w rb o g cap L) (hG : Good L) :
    Calls Try.prog 14 #[.pointer (some ⟨rb, 0, none⟩), .agg #[.int .u32 pa, .int .i64 pb]] w fun e w' => e = .returned (.int .i64 (dropC L pa pb)) ∧ ∃ (o' : Option Addr) (g' cap' : Nat), RT w' rb o' g' cap' (dropL L pa pb) ∧ (g' = g ∨ w.heap.size ≤ g') ∧ Kp [rb] w w' := by
  have T := Lib.hid h
  have HC : Hid (∀ w', Calls Try.prog 26 #[.agg #[.int .u32 pa, .int .i64 pb]] w' fun e w'' => e = .returned (.int .i64 (chk pa pb)) ∧ Below w'.heap.size w' w'') := fun w' => rcheck_any pa pb w' hpa
  have h0 : Below w.heap.size w (w.alloc (.cells #[.int .u32 (pa : Int), .int .i64 pb] 34)) := (Below.refl _ _).alloc (Nat.le_refl _) _
  by_cases hc : chk pa pb = 0
  · rw [hc] at HC
    obtain ⟨h1, h2, h3⟩ := chk_ok hc
    obtain ⟨n, rfl⟩ := Int.eq_ofNat_of_zero_le h1
    have HT : Hid (∀ w', Below w.heap.size w w' → Calls Try.prog 27 #[.pointer (some ⟨rb, 0, none⟩), .agg #[.int .u32 pa, .int .i64 n]] w' fun e w'' => ((hasE pa n L = false ∧ e = .returned (.int .i64 (-1))) ∨ ∃ (k : Nat) (x : Ent), L[k]? = some x ∧ x.a = pa ∧ x.b = n ∧ e = .returned (.int .i64 k)) ∧ Below w'.heap.size w' w'') := fun w' hb => at_any pa n rb g cap o L w' (T.out.on hb) hG.many
    have HD : Hid (dropC L pa n = if hasE pa n L = true then 0 else 7) := by show _ = _; unfold dropC; rw [hc]; simp
    have G := Lib.hid hG
    clear h hG hc h1 h2 h3
    go_enter Try.func14, Try.ntmps14
    go_wp2_with fail
    refine (HC.out _).mono ?_; rintro e w1 ⟨rfl, hb1⟩
    obtain ⟨b0, b1, _, _⟩ := two_cells (box_keep hb1)
    have h01 := h0.trans (hb1.mono (by simp))
    go_wp2_with fail
    refine (HT.out _ h01).mono ?_; rintro e w2 ⟨hr, hb2⟩
    have h02 := h01.trans (hb2.mono h01.size)
    rcases hr with ⟨hh, rfl⟩ | ⟨k, x, hkx, hxa, hxb, rfl⟩
    · have HA : Hid (dropC L pa n = 7) := by show _ = _; rw [HD.out, hh]; simp
      have HB : Hid (dropL L pa n = L) := by show _ = _; unfold dropL; rw [HA.out]; simp
      clear hh
      go_wp2_with fail
      go_ret
      exact ⟨ret_int HA.out.symm, o, g, cap, by rw [HB.out]; exact T.out.on h02, Or.inl rfl, Kp.ofBelow h02⟩
    · have hxm : x ∈ L := List.mem_of_getElem? hkx
      have HA : Hid (dropC L pa n = 0) := by show _ = _; rw [HD.out, ← hxa, ← hxb, hasE_mem hxm]; simp
      have HB : Hid (dropL L pa n = L.take k ++ L.drop (k + 1)) := by show _ = _; unfold dropL; rw [HA.out, if_pos rfl, Int.toNat_natCast, ← hxa, ← hxb]; exact del_at G.out hkx
      have hk := (List.getElem?_eq_some_iff.1 hkx).1
      have hn64 := G.out.many
      have T2 := Lib.hid (T.out.on h02)
      have hle := T.out.le
      obtain ⟨rfl, hgl, _⟩ := T2.out.row (by omega)
      have hcell := cell_of_one T2.out.var
      have hfree := free_of_one T2.out.var
      have hrl := T2.out.lt
      have hs1 : ∀ w', (Instr.slice 27 (.slice (some ⟨g, 0, none⟩) L.length cap) none (some (.int .i64 (k : Int))) none).run Try.prog w' = .ok (.slice (some ⟨g, 0, none⟩) k cap) w' := fun w' => slice_to _ _ _ _ w' (by omega)
      have hs2 : ∀ w', (Instr.slice 27 (.slice (some ⟨g, 0, none⟩) L.length cap) (some (.int .i64 (IntKind.i64.wrap ((k : Int) + 1)))) none none).run Try.prog w' = .ok (.slice (some (if cap = k + 1 then ⟨g, 0, none⟩ else ⟨g, (k + 1) * 3, none⟩)) (L.length - (k + 1)) (cap - (k + 1))) w' := fun w' => slice_from g L.length cap (k + 1) _ w' (by rw [IntKind.wrap_i64]; omega) (by omega) hle
      have S1 : Hid (∀ W, Below w2.heap.size w2 W → Src W (some ⟨g, 0, none⟩) k (rcells (L.take k))) := fun W hb => (T2.out.row.src_take (by omega) k (by omega)).on hb
      have S2 : Hid (∀ W, Below w2.heap.size w2 W → Src W (some (if cap = k + 1 then ⟨g, 0, none⟩ else ⟨g, (k + 1) * 3, none⟩)) (L.length - (k + 1)) (rcells (L.drop (k + 1)))) := fun W hb => (T2.out.row.src_drop (by omega) cap (k + 1) (by omega) hle).on hb
      have HP : Hid (∀ W, Below w2.heap.size w2 W → Calls Try.prog 28 #[.slice (some ⟨g, 0, none⟩) k cap] W fun e wc => ∃ v, e = .returned v ∧ wc.ownsRow w2.heap.size 67 3 v k (rcells (L.take k)) ∧ Below w2.heap.size w2 wc) := fun W hb => by
        refine Calls.mono (rcopy_any _ k cap _ W (S1.out W hb) (fun h => by cases h) (by omega)) ?_
        rintro e wc ⟨v, rfl, h1, h2⟩
        exact ⟨v, rfl, own_base h1 hb.size, hb.trans (h2.mono hb.size)⟩
      have HN : Hid (k + (L.length - (k + 1)) = (L.take k ++ L.drop (k + 1)).length) := by show _ = _; rw [List.length_append, List.length_take, List.length_drop, Nat.min_eq_left (by omega)]
      obtain ⟨i0, hi0, hz0, hz1, hz2⟩ := info_parts info67
      generalize (if cap = k + 1 then (⟨g, 0, none⟩ : Addr) else ⟨g, (k + 1) * 3, none⟩) = ad2 at *
      generalize hm2 : L.length - (k + 1) = m2 at *
      have hm64 : k + m2 ≤ 64 := by omega
      clear hkx hxa hxb hxm hm2
      generalize L.length = nl at *
      go_wp2_with fail
      go_region_law (first | (go_simp; go_at_call 28; refine (HP.out _ ?_).mono ?_; exact (Below.refl _ _).drew; rintro e wc ⟨v1, rfl, ho1, jc⟩; have d0 := (jc.cell (p := ⟨rb, 0, none⟩) hrl).trans hcell) | (refine step_src _ (by rfl) _ _ _ (by rfl) w2.heap.size 67 i0 _ 24 Try.underlying27 hi0 hz0 hz1 hz2 rfl v1 (some ad2) k m2 _ (rcells (L.take k)) (rcells (L.drop (k + 1))) (by rfl) (by rfl) ho1 (S2.out _ jc) (fun h => by cases h) (by unfold maxLen; omega) (by omega) jc.size ?_; intro v2 w3 ho2 hg2; have j3 : Below w2.heap.size w2 w3 := jc.grown hg2 jc.size (fun k hk => (ho1.lt k hk).1); obtain ⟨o2, c2, rfl⟩ := own_form ho2; have e0 := (j3.cell (p := ⟨rb, 0, none⟩) hrl).trans hcell; have e1 := (j3.frozen (p := ⟨rb, 0, none⟩) hrl).trans hfree))
      all_goals
        go_wp2_with fail
        go_ret
        have hv3 := one_setCell (u := .slice o2 (k + m2) c2) ((j3.block rb hrl).trans T2.out.var)
        have hown3 := ownsRow_setCell_below ho2 (a := ⟨rb, 0, none⟩) hrl (.slice o2 (k + m2) c2)
        rw [← rcells_append, HN.out] at hown3
        rw [HN.out] at hv3
        obtain ⟨o4, g4, c4, e4, hRT, hg4⟩ := RT.mk' hv3 hown3 hrl
        refine ⟨ret_int HA.out.symm, o4, g4, c4, ?_, Or.inr (Nat.le_trans h02.size hg4), ?_⟩
        · rw [HB.out]
          have hz : (w3.setCell ⟨rb, 0, none⟩ (.slice o2 (k + m2) c2)) = (w3.setCell ⟨rb, 0, none⟩ (.slice o2 (L.take k ++ L.drop (k + 1)).length c2)) := by rw [HN.out]
          rw [hz]; exact hRT
        · exact ((Kp.ofBelow (bs := [rb]) h02).trans (Kp.ofBelow (bs := []) j3) (by simp)).setCell (Or.inl (by simp)) _
  · have HA : Hid (dropC L pa pb = chk pa pb) := by show _ = _; unfold dropC; rw [if_pos hc]
    have HB : Hid (dropL L pa pb = L) := by show _ = _; unfold dropL; rw [HA.out, if_neg hc]
    have hz : (chk pa pb != 0) = true := by simpa using hc
    generalize chk pa pb = C at *
    clear hc h
    go_enter Try.func14, Try.ntmps14
    go_wp2_with fail
    refine (HC.out _).mono ?_; rintro e w1 ⟨rfl, hb1⟩
    have h01 := h0.trans (hb1.mono (by simp))
    go_wp2_with fail
    go_ret
    exact ⟨ret_int HA.out.symm, o, g, cap, by rw [HB.out]; exact T.out.on h01, Or.inl rfl, Kp.ofBelow h01⟩
end Go.Proofs.Ytchmfbfijglokaa
