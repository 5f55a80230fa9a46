/-
  Contract of the document's Tick (15).
-/
import Derived.Test.YtfnmcnbiahfnfaaEb
namespace Go.Proofs.Ytfnmcnbiahfnfaa
open Go.RowKit
set_option linter.unusedVariables false
set_option linter.unusedSimpArgs false

/-- What n ticks make of one that is open. -/
def dtk (n : Int) (e : DE) : Option DE := if n < 30 - e.age then some { e with age := e.age + n } else none
def dtick (n : Int) (U : List DE) : List DE := U.filterMap (dtk n)
theorem dtick_succ (n : Int) (U : List DE) (k : Nat) (e : DE) (h : U[k]? = some e) : dtick n (U.take (k + 1)) = dtick n (U.take k) ++ (dtk n e).toList := by
  unfold dtick
  rw [List.take_add_one, h, List.filterMap_append]
  cases hd : dtk n e <;> simp [hd]
theorem dtick_len (n : Int) (U : List DE) : (dtick n U).length ≤ U.length := List.length_filterMap_le _ _
theorem dtick_mem {n : Int} {U : List DE} {e : DE} (h : e ∈ dtick n U) : ∃ x ∈ U, e.v = x.v ∧ e.l = x.l := by
  unfold dtick at h
  rw [List.mem_filterMap] at h
  obtain ⟨x, hx, h⟩ := h
  unfold dtk at h
  split at h
  · injection h with h; subst h; exact ⟨x, hx, rfl, rfl⟩
  · cases h

set_option maxHeartbeats 4000000 in
set_option maxRecDepth 100000 in
theorem dtick_any (ub B : Nat) (n : Int) (s : Value) (U : List DE) (w : World) (h : UT w ub B s U) (hB : B ≤ w.heap.size) (h8 : U.length ≤ 8) (hn : 0 ≤ n ∧ n ≤ 9223372036854775807) (ha : ∀ e ∈ U, 0 ≤ e.age ∧ e.age < 30) :
    Calls Try.prog 15 #[.pointer (some ⟨ub, 0, none⟩), .int .i64 n] w fun e w' => e = .returned (.int .i64 0) ∧ ∃ s', UT w' ub B s' (dtick n U) ∧ Kp [ub] w w' ∧ ∀ g, s'.ownBlock = some g → w.heap.size ≤ g := by
  obtain ⟨o, cap, rfl, hle, hoc, hg0⟩ := own_form h.row
  have T := Lib.hid h
  have HA := Lib.hid ha
  have HG := Lib.hid hg0
  have cu : w.cell? ⟨ub, 0, none⟩ = some (.slice o U.length cap) := h.cell
  have ult := h.lt
  obtain ⟨i0, hi0, hz0, hz1, hz2⟩ := info_parts info81
  have HU := Lib.hid Try.underlying81
  have HI : Hid ((Try.prog.info? 81).map (·.size) = some 2) := by show _ = _; kernel_rfl
  obtain ⟨hn0, hn1⟩ := hn
  have hneg : ¬ (n < 0) := by omega
  have HEnd : Hid (∀ v2 w3, World.ownsRow w3 w.heap.size 81 2 v2 (dtick n U).length (ocells (dtick n U)) → Below w.heap.size w w3 → ∃ s', UT (w3.setCell ⟨ub, 0, none⟩ v2) ub B s' (dtick n U) ∧ Kp [ub] w (w3.setCell ⟨ub, 0, none⟩ v2) ∧ ∀ g, s'.ownBlock = some g → w.heap.size ≤ g) := fun v2 w3 ho j3 => ⟨v2, T.out.fresh hB j3 ho fun e he => dtick_mem he⟩
  generalize hnl : U.length = nl at *
  have HNL := Lib.hid hnl
  clear h ha hg0 hnl
  go_enter Try.func15, Try.ntmps15
  go_wp2_with fail
  go_loopw [5, 15] (fun v i W => ∃ k : Nat, k ≤ nl ∧ i = .int .i64 k ∧ W.ownsRow w.heap.size 81 2 v (dtick n (U.take k)).length (ocells (dtick n (U.take k))) ∧ Below w.heap.size w W) (fun _ i _ => nl - (intOf i).toNat)
  case atStart => exact ⟨0, Nat.zero_le _, rfl, by simpa [dtick, ocells] using World.ownsRow_nil w w.heap.size 81 2, Below.refl _ _⟩
  case round =>
    obtain ⟨k, hk, rfl, hR, hb⟩ := hrel
    by_cases hlt : k < nl
    · obtain ⟨g, rfl⟩ := HG.out (by omega)
      obtain ⟨e, he⟩ : ∃ e, U[k]? = some e := ⟨U[k]'(by rw [HNL.out]; exact hlt), List.getElem?_eq_getElem _⟩
      have hem := List.mem_of_getElem? he
      obtain ⟨ha0, ha1⟩ := HA.out e hem
      have HD := Lib.hid (dtick_succ n U k e he)
      obtain ⟨x1, x2⟩ := ocells_get U k e he
      have hrow := T.out.row
      rw [HNL.out] at hrow
      have y1 := (hb.cell (p := ⟨g, k * 2, none⟩) (hrow.lt g rfl).2).trans ((hrow.cellAt (k * 2) (by omega)).trans x1)
      have y2 := (hb.cell (p := ⟨g, k * 2 + 1, none⟩) (hrow.lt g rfl).2).trans ((hrow.cellAt (k * 2 + 1) (by omega)).trans x2)
      have HR2 : Hid (wr.rangeAt g (k * 2) [e.v, .int .i64 e.age]) := fun j v hv => by
        match j, hv with
        | 0, hv => simp at hv; rw [← hv]; exact y1
        | 1, hv => simp at hv; rw [← hv]; exact y2
        | j + 2, hv => simp at hv
      obtain ⟨o', g', c', hv, _⟩ := (T.out.ls e hem).form
      have R := Lib.hid hR
      have hdl := dtick_len n (U.take k)
      have htl : (U.take k).length ≤ 8 := by rw [List.length_take]; omega
      have hbs := hb.size
      clear x1 x2 y1 y2 hrow hem hR he
      generalize hacc : dtick n (U.take k) = acc at *
      obtain ⟨v, l, age⟩ := e
      have hv : v = .slice o' l.length c' := hv
      subst hv
      have ha0 : 0 ≤ age := ha0
      have ha1 : age < 30 := ha1
      generalize l.length = ll at *
      by_cases hn2 : n < 30 - age
      · have HD2 : Hid (dtick n (U.take (k + 1)) = acc ++ [⟨.slice o' ll c', l, age + n⟩]) := by
          show _ = _
          rw [HD.out]
          unfold dtk
          rw [if_pos hn2]
          rfl
        have R2 : Hid (((wr.alloc (.cells #[.slice o' ll c', .int .i64 (age + n)] 81)).alloc (.cells #[.slice o' ll c', .int .i64 (age + n)] 81)).ownsRow w.heap.size 81 2 u5 acc.length (ocells acc)) := World.ownsRow.alloc (World.ownsRow.alloc R.out _) _
        have hnew : Hid (((wr.alloc (.cells #[.slice o' ll c', .int .i64 (age + n)] 81)).alloc (.cells #[.slice o' ll c', .int .i64 (age + n)] 81)).heap[wr.heap.size + 1]? = some (.cells #[.slice o' ll c', .int .i64 (age + n)] 81 (0, 0))) := by
          have := heap_alloc_new (wr.alloc (.cells #[.slice o' ll c', .int .i64 (age + n)] 81)) (.cells #[.slice o' ll c', .int .i64 (age + n)] 81)
          rwa [show (wr.alloc (.cells #[.slice o' ll c', .int .i64 (age + n)] 81)).heap.size = wr.heap.size + 1 from by simp] at this
        have b2 : Below w.heap.size w ((wr.alloc (.cells #[.slice o' ll c', .int .i64 (age + n)] 81)).alloc (.cells #[.slice o' ll c', .int .i64 (age + n)] 81)) := (hb.alloc hbs _).alloc (by simp; omega) _
        have hbs2 := b2.size
        have olt := World.ownsRow.lt R2.out
        have hone : ∀ u ∈ [Value.slice o' ll c', .int .i64 (age + n)], u.oneCell' = true := by simp [Value.oneCell']
        have h9 : acc.length ≤ 8 := by omega
        go_wp2_with (first | (refine wpList_load_mid rfl 81 _ rfl g (k * 2) rfl [.slice o' ll c', .int .i64 age] _ HR2.out HU.out rfl HI.out ?_) | (at_builtin; refine wpList_append_lies _ rfl _ _ _ rfl w.heap.size 81 i0 _ 2 32 Try.underlying35 hi0 hz0 hz1 hz2 rfl (by omega) u5 acc.length (ocells acc) rfl R2.out ⟨wr.heap.size + 1, 0, none⟩ 1 1 [.slice o' ll c', .int .i64 (age + n)] rfl rfl (World.news_of_block hnew.out) hone (by omega) (by unfold maxLen; omega) (by omega) hbs2 _ rfl ?_; intro g2 cap2 w2 own2 hgrow hat hglt))
        have hb2 : Below w.heap.size w w2 := b2.grown hgrow hbs2 (fun j hj => (olt j hj).1)
        go_roundw
        case rel =>
          refine ⟨k + 1, by omega, by go_num, ?_, hb2⟩
          rw [HD2.out, List.length_append, ocells_append]
          exact own2
        case measure => simp [intOf]; omega
      · have HD2 : Hid (dtick n (U.take (k + 1)) = acc) := by
          show _ = _
          rw [HD.out]
          unfold dtk
          rw [if_neg hn2]
          simp
        have b2 : Below w.heap.size w (wr.alloc (.cells #[.slice o' ll c', .int .i64 age] 81)) := hb.alloc hbs _
        have R2 : Hid ((wr.alloc (.cells #[.slice o' ll c', .int .i64 age] 81)).ownsRow w.heap.size 81 2 u5 acc.length (ocells acc)) := World.ownsRow.alloc R.out _
        go_wp2_with (refine wpList_load_mid rfl 81 _ rfl g (k * 2) rfl [.slice o' ll c', .int .i64 age] _ HR2.out HU.out rfl HI.out ?_)
        go_roundw
        case rel =>
          refine ⟨k + 1, by omega, by go_num, ?_, b2⟩
          rw [HD2.out]
          exact R2.out
        case measure => simp [intOf]; omega
    · have hlt' : ¬ ((k : Int) < (nl : Int)) := by omega
      have hkn : k = nl := by omega
      subst hkn
      have hfull : U.take k = U := List.take_of_length_le (by rw [HNL.out]; exact Nat.le_refl _)
      rw [hfull] at hR
      have c1 := (hb.cell (p := ⟨ub, 0, none⟩) ult).trans cu
      have c2 := (hb.frozen (p := ⟨ub, 0, none⟩) ult).trans T.out.free
      obtain ⟨o2, c2', rfl, _⟩ := own_form hR
      have HE := Lib.hid (HEnd.out _ _ hR hb)
      clear hR HEnd hfull
      go_wp2_with fail
      go_ret
      exact ⟨rfl, HE.out⟩
end Go.Proofs.Ytfnmcnbiahfnfaa
