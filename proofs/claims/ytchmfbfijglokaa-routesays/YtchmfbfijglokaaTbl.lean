/-
  A table in memory, and the contracts of New, Add and Drop (package route).
-/
import Derived.Test.YtchmfbfijglokaaTHas
namespace Go.Proofs.Ytchmfbfijglokaa
open Go.RowKit
set_option linter.unusedVariables false

/-- What Add says. -/
def addC (L : List Ent) (a : Nat) (b : Int) : Int := if chk a b ≠ 0 then chk a b else if hasE a b.toNat L = true then 8 else if L.length = 64 then 9 else 0
/-- What it leaves. -/
def addL (L : List Ent) (a : Nat) (b v : Int) : List Ent := if addC L a b = 0 then insE ⟨a, b.toNat, v⟩ L else L
/-- What Drop says. -/
def dropC (L : List Ent) (a : Nat) (b : Int) : Int := if chk a b ≠ 0 then chk a b else if hasE a b.toNat L = true then 0 else 7
/-- What it leaves. -/
def dropL (L : List Ent) (a : Nat) (b : Int) : List Ent := if dropC L a b = 0 then delE a b.toNat L else L

theorem delE_none {pa pb : Nat} {L : List Ent} (h : hasE pa pb L = false) : delE pa pb L = L := by
  apply delE_same
  intro x hx hh
  unfold hasE at h
  rw [List.any_eq_false] at h
  exact h x hx ((isK_iff pa pb x).2 hh)
theorem delE_length {pa pb : Nat} : ∀ {L : List Ent}, L.Pairwise Ent.lt → hasE pa pb L = true → (delE pa pb L).length + 1 = L.length
  | [], _, h => by simp [hasE] at h
  | x :: L, hs, h => by
    rw [List.pairwise_cons] at hs
    have e : hasE pa pb (x :: L) = (isK pa pb x || hasE pa pb L) := rfl
    have f : delE pa pb (x :: L) = if (!isK pa pb x) = true then x :: delE pa pb L else delE pa pb L := by unfold delE; rw [List.filter_cons]
    rw [e] at h
    rw [f]
    cases hk : isK pa pb x with
    | true =>
      have hk' := (isK_iff pa pb x).1 hk
      have hn : delE pa pb L = L := delE_same _ _ _ fun y hy => by
        have := hs.1 y hy
        unfold Ent.lt at this
        omega
      simp [hn]
    | false =>
      rw [hk] at h
      simp only [Bool.false_or] at h
      simp [delE_length hs.2 h]

/-- A table lies at block tb; its blocks; its entries. -/
def Tbl (w : World) (tb : Nat) (bs : List Nat) (L : List Ent) : Prop :=
  ∃ t : LT, bs = tb :: blocks t ∧ w.heap[tb]? = some (.cells #[(ptrOf t), .int .i64 (L.length : Nat)] 61 (0, 0)) ∧ Tin w t ∧ (tb :: blocks t).Nodup ∧ fits t 0 ∧ toL t 0 0 = L ∧ L.length ≤ 64
theorem Tbl.lt {w : World} {tb : Nat} {bs : List Nat} {L : List Ent} (h : Tbl w tb bs L) : ∀ k ∈ bs, k < w.heap.size := by
  obtain ⟨t, rfl, h1, h2, _⟩ := h
  intro k hk
  rcases List.mem_cons.1 hk with rfl | hk
  · exact lt_of_block h1
  · exact h2.lt k hk
theorem Tbl.keep {w w' : World} {tb : Nat} {bs : List Nat} {L : List Ent} (h : Tbl w tb bs L) (hk : ∀ k ∈ bs, w'.heap[k]? = w.heap[k]?) : Tbl w' tb bs L := by
  obtain ⟨t, rfl, h1, h2, h3⟩ := h
  exact ⟨t, rfl, (hk tb (by simp)).trans h1, h2.keep fun k hm => hk k (by simp [hm]), h3⟩
theorem Tbl.below {w w' : World} {tb : Nat} {bs : List Nat} {L : List Ent} (h : Tbl w tb bs L) {B : Nat} (hb : Below B w w') (hB : ∀ k ∈ bs, k < B) : Tbl w' tb bs L := h.keep fun k hk => hb.block k (hB k hk)
theorem Tbl.on {w w' : World} {tb : Nat} {bs : List Nat} {L : List Ent} (h : Tbl w tb bs L) (hb : Below w.heap.size w w') : Tbl w' tb bs L := h.below hb h.lt
theorem Tbl.kp {w w' : World} {tb : Nat} {bs cs : List Nat} {L : List Ent} (h : Tbl w tb bs L) (hk : Kp cs w w') (hn : ∀ k ∈ bs, k ∉ cs) : Tbl w' tb bs L := h.keep fun k hm => hk.block k (h.lt k hm) (hn k hm)
theorem Tbl.mem {w : World} {tb : Nat} {bs : List Nat} {L : List Ent} (h : Tbl w tb bs L) : tb ∈ bs := by obtain ⟨t, rfl, _⟩ := h; simp

/-- A list of entries as a table has it. -/
structure Good (L : List Ent) : Prop where
  sorted : L.Pairwise Ent.lt
  align : ∀ x ∈ L, x.a % 2 ^ (32 - x.b) = 0
  range : ∀ x ∈ L, x.a < 4294967296 ∧ x.b ≤ 32
  many : L.length ≤ 64
theorem Tbl.good {w : World} {tb : Nat} {bs : List Nat} {L : List Ent} (h : Tbl w tb bs L) : Good L := by
  obtain ⟨t, rfl, h1, h2, h3, h4, rfl, h5⟩ := h
  refine ⟨toL_sorted t _ _ h4, toL_align t _ _ h4 (by simp), fun x hx => ?_, h5⟩
  have := toL_range t _ _ h4 x hx
  simp at this
  omega

theorem box_keep {w w1 : World} {o : Obj} (hb : Below (w.alloc o).heap.size (w.alloc o) w1) : w1.heap[w.heap.size]? = some o := by
  rw [hb.block w.heap.size (by simp)]; exact heap_alloc_new w o
theorem two_cells {w : World} {k : Nat} {a b : Value} {T : TypeId} (h : w.heap[k]? = some (.cells #[a, b] T (0, 0))) :
    w.cell? ⟨k, 0, none⟩ = some a ∧ w.cell? ⟨k, 1, none⟩ = some b ∧ w.frozen? ⟨k, 0, none⟩ = false ∧ w.frozen? ⟨k, 1, none⟩ = false := by
  simp [World.cell?, World.frozen?, h]

theorem new_any (w : World) : Calls Try.prog 9 #[] w fun e w' => e = .returned (.pointer (some ⟨w.heap.size, 0, none⟩)) ∧ Tbl w' w.heap.size [w.heap.size] [] ∧ Below w.heap.size w w' := by
  go_enter Try.func9, Try.ntmps9
  go_wp2
  go_ret
  exact ⟨rfl, ⟨.nil, rfl, heap_alloc_new _ _, trivial, by simp [blocks], trivial, rfl, by simp⟩, (Below.refl _ _).alloc (Nat.le_refl _) _⟩

set_option maxHeartbeats 2000000 in
theorem add_any (tb : Nat) (bs : List Nat) (L : List Ent) (pa : Nat) (pb via : Int) (w : World) (hpa : pa < 4294967296) (h : Tbl w tb bs L) :
    Calls Try.prog 10 #[.pointer (some ⟨tb, 0, none⟩), .agg #[.int .u32 pa, .int .i64 pb], .int .i64 via] w fun e w' => e = .returned (.int .i64 (addC L pa pb)) ∧ ∃ bs', Tbl w' tb bs' (addL L pa pb via) ∧ Kp bs w w' ∧ ∀ k ∈ bs', k ∈ bs ∨ w.heap.size ≤ k := by
  have T := Lib.hid h
  have HC : Hid (∀ w', Calls Try.prog 22 #[.agg #[.int .u32 pa, .int .i64 pb]] w' fun e w'' => e = .returned (.int .i64 (chk pa pb)) ∧ Below w'.heap.size w' w'') := fun w' => check_any pa pb w' hpa
  have h0 : Below w.heap.size w (w.alloc (.cells #[.int .u32 (pa : Int), .int .i64 pb] 34)) := (Below.refl _ _).alloc (Nat.le_refl _) _
  by_cases hc : chk pa pb = 0
  · rw [hc] at HC
    obtain ⟨h1, h2, h3⟩ := chk_ok hc
    obtain ⟨n, rfl⟩ := Int.eq_ofNat_of_zero_le h1
    have hn : n ≤ 32 := by omega
    unfold wid at h3
    rw [Int.toNat_natCast] at h3
    obtain ⟨t, rfl, hroot, hin, hnd, hf, hL, hlen⟩ := h
    obtain ⟨p0, hp0⟩ := ptr_form t
    rw [List.nodup_cons] at hnd
    have htl := lt_of_block hroot
    have HH : Hid (∀ w', Below w.heap.size w w' → Calls Try.prog 23 #[.pointer (some ⟨tb, 0, none⟩), .agg #[.int .u32 pa, .int .i64 n]] w' fun e w'' => e = .returned (.bool (hasE pa n L)) ∧ Below w'.heap.size w' w'') := fun w' hb => by
      have := thas_any pa n tb t (L.length : Nat) w' hpa hn h3 ((hb.block tb htl).trans hroot) (hin.below hb hin.lt) hf
      rwa [hL] at this
    cases hh : hasE pa n L with
    | true =>
      rw [hh] at HH
      have HA : Hid (addC L pa n = 8) := by show _ = _; unfold addC; rw [hc]; simp [hh]
      have HB : Hid (addL L pa n via = L) := by show _ = _; unfold addL; rw [HA.out]; simp
      clear hh hc hL hp0 hroot
      go_enter Try.func10, Try.ntmps10
      go_wp2_with fail
      refine (HC.out _).mono ?_; rintro e w1 ⟨rfl, hb1⟩
      obtain ⟨b0, b1, _, _⟩ := two_cells (box_keep hb1)
      have h01 := h0.trans (hb1.mono (by simp))
      go_wp2_with fail
      refine (HH.out _ h01).mono ?_; rintro e w2 ⟨rfl, hb2⟩
      go_wp2_with fail
      go_ret
      have h02 := h01.trans (hb2.mono h01.size)
      exact ⟨ret_int HA.out.symm, _, by rw [HB.out]; exact T.out.on h02, Kp.ofBelow h02, fun k hk => Or.inl hk⟩
    | false =>
      rw [hh] at HH
      rw [hp0] at hroot
      by_cases h64 : L.length = 64
      · have HA : Hid (addC L pa n = 9) := by show _ = _; unfold addC; rw [hc]; simp [hh, h64]
        have HB : Hid (addL L pa n via = L) := by show _ = _; unfold addL; rw [HA.out]; simp
        rw [h64] at hroot
        have RT := Lib.hid hroot
        clear hh hc hL hp0 hroot h64
        go_enter Try.func10, Try.ntmps10
        go_wp2_with fail
        refine (HC.out _).mono ?_; rintro e w1 ⟨rfl, hb1⟩
        obtain ⟨b0, b1, _, _⟩ := two_cells (box_keep hb1)
        have h01 := h0.trans (hb1.mono (by simp))
        go_wp2_with fail
        refine (HH.out _ h01).mono ?_; rintro e w2 ⟨rfl, hb2⟩
        have h02 := h01.trans (hb2.mono h01.size)
        obtain ⟨t0, t1, t2, t3⟩ := two_cells ((h02.block tb htl).trans RT.out)
        go_wp2_with fail
        go_ret
        exact ⟨ret_int HA.out.symm, _, by rw [HB.out]; exact T.out.on h02, Kp.ofBelow h02, fun k hk => Or.inl hk⟩
      · have HA : Hid (addC L pa n = 0) := by show _ = _; unfold addC; rw [hc]; simp [hh, h64]
        have HB : Hid (addL L pa n via = insE ⟨pa, n, via⟩ L) := by show _ = _; unfold addL; rw [HA.out, if_pos rfl]; rfl
        have hne : ((L.length : Int) == 64) = false := by simp; omega
        have RT := Lib.hid hroot
        have HW : Hid (∀ w', Below w.heap.size w w' → Calls Try.prog 24 #[.pointer p0, .agg #[.int .u32 pa, .int .i64 n], .int .i64 0, .int .i64 via] w' fun e w'' => ∃ q, e = .returned (.pointer q) ∧
            (w''.cell? ⟨tb, 0, none⟩ = some (.pointer p0) ∧ w''.cell? ⟨tb, 1, none⟩ = some (.int .i64 (L.length : Nat)) ∧ w''.frozen? ⟨tb, 0, none⟩ = false ∧ w''.frozen? ⟨tb, 1, none⟩ = false) ∧
            Hid (∃ bs', Tbl ((w''.setCell ⟨tb, 0, none⟩ (.pointer q)).setCell ⟨tb, 1, none⟩ (.int .i64 ((L.length : Int) + 1))) tb bs' (insE ⟨pa, n, via⟩ L) ∧ Kp (tb :: blocks t) w ((w''.setCell ⟨tb, 0, none⟩ (.pointer q)).setCell ⟨tb, 1, none⟩ (.int .i64 ((L.length : Int) + 1))) ∧ (∀ k ∈ bs', k ∈ (tb :: blocks t) ∨ w.heap.size ≤ k))) := by
          intro w' hb
          have := with_any pa n via hpa hn h3 n t 0 w' (by omega) (hin.below hb hin.lt) hnd.2 hf (by rw [pre_zero pa hpa, hL]; exact hh)
          rw [hp0] at this
          refine Calls.mono this ?_
          rintro e w'' ⟨t', rfl, hw, hf', he⟩
          obtain ⟨q, hq⟩ := ptr_form t'
          rw [pre_zero pa hpa, hL] at he
          have hr : w''.heap[tb]? = some (.cells #[.pointer p0, .int .i64 (L.length : Nat)] 61 (0, 0)) := by
            rw [hw.kept.block tb (Nat.lt_of_lt_of_le htl hb.size) hnd.1, hb.block tb htl]; exact hroot
          have hnt : tb ∉ blocks t' := fun hm => by
            rcases hw.sub tb hm with h1 | h1
            · exact hnd.1 h1
            · have := hb.size; omega
          refine ⟨q, by rw [hq], two_cells hr, tb :: blocks t', ⟨t', rfl, ?_, ?_, ?_, hf', he, ?_⟩, ?_, ?_⟩
          · rw [Joins.block_setCell (Joins.block_setCell hr _), hq, insE_length]; simp
          · exact hw.lies.keep fun j hj => by rw [Below.heap_setCell _ _ _ _ (fun e : j = tb => hnt (e ▸ hj)), Below.heap_setCell _ _ _ _ (fun e : j = tb => hnt (e ▸ hj))]
          · rw [List.nodup_cons]; exact ⟨hnt, hw.nod⟩
          · rw [insE_length]; omega
          · exact (((Kp.ofBelow hb).trans hw.kept fun x hx => Or.inl (by simp [hx])).setCell (Or.inl (by simp)) _).setCell (Or.inl (by simp)) _
          · intro k hk
            rcases List.mem_cons.1 hk with rfl | hk
            · left; simp
            · rcases hw.sub k hk with h1 | h1
              · left; simp [h1]
              · right; have := hb.size; omega
        have hlen2 : (L.length : Int) ≤ 64 := by omega
        clear hh hc hL hp0 hroot h64
        generalize L.length = N at *
        go_enter Try.func10, Try.ntmps10
        go_wp2_with fail
        refine (HC.out _).mono ?_; rintro e w1 ⟨rfl, hb1⟩
        have bx := box_keep hb1
        obtain ⟨b0, b1, _, _⟩ := two_cells bx
        have h01 := h0.trans (hb1.mono (by simp))
        go_wp2_with fail
        refine (HH.out _ h01).mono ?_; rintro e w2 ⟨rfl, hb2⟩
        have h02 := h01.trans (hb2.mono h01.size)
        obtain ⟨t0, t1, t2, t3⟩ := two_cells ((h02.block tb htl).trans RT.out)
        obtain ⟨d0, d1, _, _⟩ := two_cells ((hb2.block _ (lt_of_block bx)).trans bx)
        clear bx
        go_wp2_with fail
        go_region_with (go_at_call 24; refine (HW.out _ ?_).mono ?_; exact h02.drew; rintro e w3 ⟨q, rfl, ⟨e0, e1, e2, e3⟩, G⟩)
        all_goals
          go_wp2_with fail
          go_ret
          obtain ⟨bs', g1, g2, g3⟩ := G.out
          refine ⟨ret_int HA.out.symm, bs', ?_, g2, g3⟩
          rw [HB.out]; exact g1
  · have HA : Hid (addC L pa pb = chk pa pb) := by show _ = _; unfold addC; rw [if_pos hc]
    have HB : Hid (addL L pa pb via = L) := by show _ = _; unfold addL; rw [HA.out, if_neg hc]
    have hcc := chk_cases pa pb
    have hz : (chk pa pb != 0) = true := by simpa using hc
    generalize chk pa pb = C at *
    clear hc h
    go_enter Try.func10, Try.ntmps10
    go_wp2_with fail
    refine (HC.out _).mono ?_; rintro e w1 ⟨rfl, hb1⟩
    have h01 := h0.trans (hb1.mono (by simp))
    go_wp2_with fail
    go_ret
    exact ⟨ret_int HA.out.symm, _, by rw [HB.out]; exact T.out.on h01, Kp.ofBelow h01, fun k hk => Or.inl hk⟩
end Go.Proofs.Ytchmfbfijglokaa
