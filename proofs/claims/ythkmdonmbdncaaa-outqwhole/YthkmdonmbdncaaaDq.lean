/-
  Contracts of slices.Delete at the type of the queue's bytes, of drop, of Ack (package outq).
-/
import Derived.Test.YthkmdonmbdncaaaGt
namespace Go.Proofs.Ythkmdonmbdncaaa
open Go.RowKit
set_option linter.unusedVariables false
set_option linter.unusedSimpArgs false

/-- Values laid over a row from place o on. -/
def lay1 (cs : Array Value) (o : Nat) : List Value → Array Value
  | [] => cs
  | v :: r => lay1 (cs.setIfInBounds o v) (o + 1) r
theorem lay1_size (vs : List Value) : ∀ (cs : Array Value) (o : Nat), (lay1 cs o vs).size = cs.size := by
  induction vs with
  | nil => intro cs o; rfl
  | cons v r ih => intro cs o; rw [lay1, ih]; simp
theorem lay1_get (vs : List Value) : ∀ (cs : Array Value) (o k : Nat), o + vs.length ≤ cs.size → (lay1 cs o vs)[k]? = if o ≤ k ∧ k < o + vs.length then vs[k - o]? else cs[k]? := by
  induction vs with
  | nil => intro cs o k h; rw [lay1, if_neg (by simp)]
  | cons v r ih =>
    intro cs o k h
    rw [List.length_cons] at h
    rw [lay1, ih _ _ _ (by simp; omega), List.length_cons]
    by_cases hk : o + 1 ≤ k ∧ k < o + 1 + r.length
    · rw [if_pos hk, if_pos (by omega), show k - o = (k - (o + 1)) + 1 from by omega, List.getElem?_cons_succ]
    · rw [if_neg hk]
      by_cases he : k = o
      · subst he
        rw [if_pos (by omega), Nat.sub_self, List.getElem?_cons_zero, Array.getElem?_setIfInBounds]
        simp [show k < cs.size from by omega]
      · rw [if_neg (by omega), Array.getElem?_setIfInBounds, if_neg (by omega)]
theorem block_setCells {g : Nat} {t : TypeId} {fr : Nat × Nat} (vs : List Value) : ∀ {w : World} {cs : Array Value} (o : Nat), w.heap[g]? = some (.cells cs t fr) → (w.setCells g o vs).heap[g]? = some (.cells (lay1 cs o vs) t fr) := by
  induction vs with
  | nil => intro w cs o h; exact h
  | cons v r ih => intro w cs o h; exact ih (o + 1) (Joins.block_setCell h v)
theorem Kp.toGrown {w w' : World} {row : Option Nat} (h : Kp row.toList w w') : w.grownBy w' row := ⟨h.os, h.tape, h.output, h.size, fun k hk hn => h.block k hk (fun hm => hn (Eq.symm (by simpa using hm)))⟩
theorem strCells_size (K : ByteArray) : (Lib.strCells K).length = K.size := Lib.strCells_length K

theorem zero5 (w : World) : (zeroValue 5).run Try.prog w = .ok (.int .u8 0) w := by kernel_rfl

set_option maxHeartbeats 2000000 in
theorem del_any {B : Nat} {v : Value} {K : ByteArray} {w : World} (hown : w.ownsRow B 5 1 v K.size (Lib.strCells K)) (hK : K.size ≤ 2048) (j : Nat) (hj : j ≤ K.size) :
    Calls Try.prog 33 #[v, .int .i64 0, .int .i64 (j : Int)] w fun e w' => ∃ v', e = .returned v' ∧ w'.ownsRow B 5 1 v' (K.extract j K.size).size (Lib.strCells (K.extract j K.size)) ∧ w.grownBy w' v.ownBlock := by
  obtain ⟨i0, hi, hz0, hz1, hz2⟩ := info_parts info5
  by_cases hj0 : j = 0
  · subst hj0
    have HE : Hid (K.extract 0 K.size = K) := by show _ = _; apply ext_list; rw [extract_list, List.drop_zero, List.take_of_length_le (by simp)]
    obtain ⟨o, cap, rfl⟩ : ∃ o cap, v = .slice o K.size cap := by
      rcases hown.2 with ⟨rfl, h0⟩ | ⟨g, cap, cur, rfl, _⟩
      · exact ⟨none, 0, by rw [h0]⟩
      · exact ⟨_, cap, rfl⟩
    have hc : K.size ≤ cap := by
      rcases hown.2 with ⟨h0, h1⟩ | ⟨g, cap', cur, h0, _, _, h1, _⟩
      · omega
      · injection h0 with _ _ h0; omega
    have HO := Lib.hid hown
    clear hown
    go_enter Try.func33, Try.ntmps33
    go_wp2
    all_goals
      go_ret
      exact ⟨_, rfl, by rw [HE.out]; exact HO.out, ⟨rfl, rfl, rfl, Nat.le_refl _, fun _ _ _ => rfl⟩⟩
  · rcases hown.2 with ⟨rfl, h0⟩ | ⟨g, cap, cur, rfl, hbg, hg, hnc, hcm, hcs, htake⟩
    · omega
    · have hjp : 0 < j := by omega
      obtain ⟨news, hnews⟩ : ∃ news, news = (Lib.strCells K).drop j := ⟨_, rfl⟩
      have hlen : news.length = K.size - j := by rw [hnews, List.length_drop, strCells_size]
      obtain ⟨A, hA, hsrc⟩ : ∃ A : Addr, (if cap = j then (some ⟨g, 0, none⟩ : Option Addr) else some ⟨g, j, none⟩) = some A ∧ Hid (∀ t u, news[t]? = some u → w.drew.cell? (A.add t) = some u) := by
        by_cases h : cap = j
        · refine ⟨⟨g, 0, none⟩, by simp [h], fun t u hu => ?_⟩
          have h0 : news.length = 0 := by rw [hlen]; omega
          rw [List.length_eq_zero_iff.1 h0] at hu
          simp at hu
        · refine ⟨⟨g, j, none⟩, by simp [h], fun t u hu => ?_⟩
          have ht : t < K.size - j := by
            have := (List.getElem?_eq_some_iff.1 hu).1
            rwa [hlen] at this
          rw [Addr.add_lit]
          show w.cell? ⟨g, j + t, none⟩ = some u
          rw [Joins.cell_of_block hg, ← hu, hnews, List.getElem?_drop, ← htake, List.getElem?_take, if_pos (by omega), Array.getElem?_toList]
      have s1 : Hid (news.length = (K.size - j) * 1) := by show _ = _; rw [Nat.mul_one]; exact hlen
      have s2 : Hid (∀ u ∈ news, u.oneCell' = true) := by
        intro u hu
        rw [hnews] at hu
        exact Lib.strCells_oneCell K u (List.mem_of_mem_drop hu)
      have s3 : Hid (∀ t, t < news.length → (w.drew.cell? ⟨g, 0 + 0 * 1 + t, none⟩).isSome = true ∧ w.drew.frozen? ⟨g, 0 + 0 * 1 + t, none⟩ = false) := by
        intro t ht
        rw [hlen] at ht
        refine ⟨?_, Joins.unfrozen_of_block (w := w.drew) hg _⟩
        show (w.cell? ⟨g, 0 + 0 * 1 + t, none⟩).isSome = true
        rw [Joins.cell_of_block hg, Array.getElem?_eq_getElem (by omega)]; rfl
      obtain ⟨W1, hW1⟩ : ∃ W1, W1 = w.drew.setCells g (0 + 0 * 1) news := ⟨_, rfl⟩
      have h1 : W1.heap[g]? = some (.cells (lay1 cur 0 news) 5 (0, 0)) := by rw [hW1]; exact block_setCells (w := w.drew) news _ hg
      have k1 : Kp [g] w W1 := by rw [hW1]; exact ((Kp.refl _ w).drew).setCells (Or.inl (by simp)) _ _
      have hcl : ∀ ty, (Builtin.clear_ #[57] ty #[.slice (some ⟨g, K.size - j, none⟩) (K.size - (K.size - j)) (cap - (K.size - j))]).run Try.prog W1 = .ok (.tuple #[]) (W1.setCells g (K.size - j) (List.replicate j (.int .u8 0))) :=
        fun ty => by
          rw [show K.size - (K.size - j) = j from by omega]
          exact Lib.run_clear_slice W1 57 5 ty (.int .u8 0) Try.underlying57 zero5 rfl rfl g (K.size - j) j _ hjp
            (fun t ht => by rw [Joins.cell_of_block h1, Array.getElem?_eq_getElem (by rw [lay1_size]; omega)]; rfl) (fun t ht => Joins.unfrozen_of_block h1 _)
      have HF : Hid ((W1.setCells g (K.size - j) (List.replicate j (.int .u8 0))).ownsRow B 5 1 (.slice (some ⟨g, 0, none⟩) (K.size - j) cap) (K.extract j K.size).size (Lib.strCells (K.extract j K.size)) ∧ w.grownBy (W1.setCells g (K.size - j) (List.replicate j (.int .u8 0))) (some g)) := by
        have hz : (K.extract j K.size).size = K.size - j := by simp
        refine ⟨?_, Kp.toGrown (row := some g) (k1.setCells (Or.inl (by simp)) _ _)⟩
        rw [hz]
        refine ⟨by rw [strCells_size, hz, Nat.mul_one], Or.inr ⟨g, cap, _, rfl, hbg, block_setCells _ _ h1, by omega, hcm, ?_, ?_⟩⟩
        · rw [lay1_size, lay1_size]; exact hcs
        · rw [strCells_extract, show (Lib.strCells K).take K.size = Lib.strCells K from List.take_of_length_le (by rw [strCells_size]; omega), ← hnews, Nat.mul_one]
          apply List.ext_getElem?
          intro k
          rw [List.getElem?_take, Array.getElem?_toList]
          by_cases hk : k < K.size - j
          · rw [if_pos hk, lay1_get _ _ _ _ (by rw [lay1_size, List.length_replicate]; omega), if_neg (by omega), lay1_get _ _ _ _ (by rw [hlen]; omega), if_pos (by rw [hlen]; omega), Nat.sub_zero]
          · rw [if_neg hk, List.getElem?_eq_none (by rw [hlen]; omega)]
      have hW : Hid (W1 = w.drew.setCells g (0 + 0 * 1) news) := hW1
      have hjc : j ≤ cap := by omega
      have hne : ¬ cap = K.size - j := by omega
      have hc0 : ¬ cap = 0 := by omega
      unfold maxLen at hcm
      clear hW1 h1 k1 hnews hlen htake hg hcs hown hj0
      go_enter Try.func33, Try.ntmps33
      go_wp2_with fail
      go_region_law (refine step_append_room rfl (.tmp 22) (.tmp 25) 57 rfl 5 i0 1 Try.underlying57 hi hz1 g 0 0 cap (by simp [Act.eval, Act.put]) A (K.size - j) (cap - j) news (by simp [Act.eval, Act.put]) s1.out hsrc.out s2.out (by omega) s3.out ?_; rw [← hW.out])
      go_wp2
      go_ret
      exact ⟨_, rfl, HF.out⟩
end Go.Proofs.Ythkmdonmbdncaaa
