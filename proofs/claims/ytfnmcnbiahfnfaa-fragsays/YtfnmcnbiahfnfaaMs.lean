/-
  What a table makes of Split's pieces: mathematics.
-/
import Derived.Test.YtfnmcnbiahfnfaaLs
namespace Go.Proofs.Ytfnmcnbiahfnfaa
open Go.RowKit
set_option linter.unusedVariables false
set_option linter.unusedSimpArgs false

theorem cntT_full {f : Nat → Bool} : ∀ n, cntT f n = n ↔ ∀ i, i < n → f i = true
  | 0 => ⟨fun _ i hi => by omega, fun _ => rfl⟩
  | n + 1 => by
    have hl := cntT_le f n
    rw [cntT_succ]
    constructor
    · intro h i hi
      have h1 : f n = true := by
        cases hf : f n with
        | true => rfl
        | false => rw [hf] at h; simp at h; omega
      rw [h1] at h
      rcases Nat.lt_or_ge i n with h2 | h2
      · exact (cntT_full n).1 (by simp at h; omega) i h2
      · rw [show i = n from by omega]; exact h1
    · intro h
      rw [(cntT_full n).2 (fun i hi => h i (by omega)), h n (by omega)]; simp
theorem cntT_cut {f : Nat → Bool} {r : Nat} (h : ∀ i, f i = true → i < r) : ∀ n, r ≤ n → cntT f n = cntT f r
  | 0, hn => by rw [show r = 0 from by omega]
  | n + 1, hn => by
    rcases Nat.lt_or_ge n r with h1 | h1
    · rw [show r = n + 1 from by omega]
    · rw [cntT_succ, cntT_cut h n h1]
      have : f n = false := by
        cases hf : f n with
        | false => rfl
        | true => have := h n hf; omega
      rw [this]; simp
theorem whole_iff {g : Gm} (h : GI g) : gwhole g = true ↔ g.closed = true ∧ ∀ i, i < g.reach → g.there i = true := by
  unfold gwhole
  rw [Bool.and_eq_true, decide_eq_true_eq, h.many, cntT_cut h.up 4000 h.reach, cntT_full]

/-- What has come of p is its pieces by J. -/
structure PSt (p : Pk) (R n : Nat) (J : Nat → Bool) (g : Gm) : Prop where
  there : ∀ i, g.there i = (decide (i < p.body.size) && J (i / R))
  bytes : ∀ i, g.there i = true → g.bytes i = p.body.data.toList.getD i 0
  reach : g.reach ≤ p.body.size
  closed : g.closed = J (n - 1)
  full : g.closed = true → g.reach = p.body.size
  head : J 0 = true → g.dont = p.dont ∧ g.ttl = p.ttl
  inv : GI g
theorem pst_zero (p : Pk) (R n : Nat) : PSt p R n (fun _ => false) gm0 :=
  ⟨fun i => (by show false = _; simp), fun i h => (by cases h), Nat.zero_le _, rfl, fun h => (by cases h), fun h => (by cases h), gm0_inv⟩
theorem getD_extract (s : ByteArray) (a b i : Nat) (h : i < min b s.size - a) : (s.extract a b).data.toList.getD i 0 = s.data.toList.getD (a + i) 0 := by
  have hs : s.data.toList.length = s.size := (Lib.size_eq s).symm
  rw [List.getD_eq_getElem?_getD, List.getD_eq_getElem?_getD]
  congr 1
  have : (s.extract a b).data.toList = (s.data.toList.take b).drop a := by
    rw [ByteArray.data_extract, Array.toList_extract, List.extract_eq_take_drop, List.drop_take]
  rw [this, List.getElem?_drop, List.getElem?_take, if_pos (by omega)]
section
variable {p : Pk} {mtu : Int} {R n : Nat}
theorem Frm.inside (F : Frm p mtu R n) (h2 : 2 ≤ n) {j : Nat} (hj : j < n) : j * R < p.body.size := by
  rcases F.inn j hj with rfl | h
  · rcases F.inn 1 (by omega) with h1 | h1
    · omega
    · omega
  · exact h
theorem Frm.off8 (F : Frm p mtu R n) (j : Nat) : (pk p R j).off.toNat * 8 = j * R := by
  show ((j * R / 8 : Nat) : Int).toNat * 8 = j * R
  rw [Int.toNat_natCast]
  have : j * R % 8 = 0 := by rw [Nat.mul_mod, F.by8]; simp
  omega
theorem Frm.endp (F : Frm p mtu R n) (h2 : 2 ≤ n) {j : Nat} (hj : j < n) : (pk p R j).off.toNat * 8 + (pk p R j).body.size = min (j * R + R) p.body.size ∧ fend (pk p R j) = ((min (j * R + R) p.body.size : Nat) : Int) := by
  have h1 := (F.pkSize hj)
  have h3 := F.sta_eq hj
  have h4 := F.inside h2 hj
  rw [sta_succ] at h1
  have h5 := F.off8 j
  refine ⟨by omega, ?_⟩
  unfold fend
  have h6 : 0 ≤ (pk p R j).off := by show 0 ≤ ((j * R / 8 : Nat) : Int); omega
  omega
/-- Which piece a byte is of. -/
theorem Frm.of_byte (F : Frm p mtu R n) {j i : Nat} (hi : i < p.body.size) : (j * R ≤ i ∧ i < min (j * R + R) p.body.size) ↔ i / R = j := by
  have hR : 0 < R := by have := F.lo; omega
  rw [Nat.div_eq_iff hR]
  omega
theorem Frm.byte_lt (F : Frm p mtu R n) {i : Nat} (hi : i < p.body.size) : i / R < n := by
  have hR : 0 < R := by have := F.lo; omega
  rw [Nat.div_lt_iff_lt_mul hR]
  exact Nat.lt_of_lt_of_le hi F.all
theorem Frm.pkBody (F : Frm p mtu R n) {j i : Nat} (h : i < min (j * R + R) p.body.size - j * R) : (pk p R j).body.data.toList.getD i 0 = p.body.data.toList.getD (j * R + i) 0 := by
  show (p.body.extract (j * R) (min (j * R + R) p.body.size)).data.toList.getD i 0 = _
  rw [getD_extract _ _ _ _ (by omega)]

theorem PSt.err {J : Nat → Bool} {g : Gm} (F : Frm p mtu R n) (h2 : 2 ≤ n) {j : Nat} (hj : j < n) (S : PSt p R n J g) : pErr g (pk p R j) = false := by
  obtain ⟨he, hf⟩ := F.endp h2 hj
  have hm := F.pkMore hj
  have hin := F.inside h2 hj
  have hall := F.all
  unfold pErr
  rw [Bool.or_eq_false_iff]
  constructor
  · unfold gends
    rw [Bool.or_eq_false_iff, hf, hm]
    constructor
    · cases hc : g.closed with
      | false => rfl
      | true =>
        rw [S.full hc]
        simp; omega
    · by_cases h1 : j + 1 < n
      · rw [decide_eq_true h1]; rfl
      · rw [decide_eq_false h1]
        have e : n = j + 1 := by omega
        have := S.reach
        rw [e, Nat.add_mul, Nat.one_mul] at hall
        simp; omega
  · unfold gdiff
    rw [List.any_eq_false]
    intro i hi
    rw [List.mem_range] at hi
    rw [F.off8 j]
    have hi2 : i < min (j * R + R) p.body.size - j * R := by have := F.off8 j; omega
    simp only [Bool.and_eq_true, bne_iff_ne, ne_eq, not_and, Decidable.not_not]
    intro ht
    rw [S.bytes _ ht, F.pkBody hi2]
theorem PSt.add {J : Nat → Bool} {g : Gm} (F : Frm p mtu R n) (h2 : 2 ≤ n) {j : Nat} (hj : j < n) (S : PSt p R n J g) : PSt p R n (fun i => J i || decide (i = j)) (gadd g (pk p R j)) := by
  obtain ⟨he, hf⟩ := F.endp h2 hj
  have h8 := F.off8 j
  have hm := F.pkMore hj
  have hin := F.inside h2 hj
  have hall := F.all
  have hR : 0 < R := by have := F.lo; omega
  obtain ⟨g1, g2, g3⟩ := ghead_same g (pk p R j)
  have hth : ∀ i, (gadd g (pk p R j)).there i = (g.there i || decide (j * R ≤ i ∧ i < min (j * R + R) p.body.size)) := fun i => by
    show ((ghead g (pk p R j)).there i || decide ((pk p R j).off.toNat * 8 ≤ i ∧ i < (pk p R j).off.toNat * 8 + (pk p R j).body.size)) = _
    rw [g1, he, h8]
  refine ⟨fun i => ?_, fun i hi => ?_, ?_, ?_, fun hc => ?_, fun h0 => ?_, gadd_inv S.inv (by rw [he]; have := F.sz; omega)⟩
  · rw [hth, S.there]
    by_cases hi : i < p.body.size
    · have e1 : decide (j * R ≤ i ∧ i < min (j * R + R) p.body.size) = decide (i / R = j) := decide_eq_decide.2 (F.of_byte (j := j) hi)
      rw [decide_eq_true hi, e1]; simp
    · rw [decide_eq_false hi, decide_eq_false (by omega)]; simp
  · show bput g.bytes ((pk p R j).off.toNat * 8) (pk p R j).body i = _
    unfold bput
    rw [he, h8]
    by_cases hc : j * R ≤ i ∧ i < min (j * R + R) p.body.size
    · rw [if_pos hc, F.pkBody (by omega), show j * R + (i - j * R) = i from by omega]
    · rw [if_neg hc]
      rw [hth, decide_eq_false hc, Bool.or_false] at hi
      exact S.bytes i hi
  · show max g.reach ((pk p R j).off.toNat * 8 + (pk p R j).body.size) ≤ _
    rw [he]; have := S.reach; omega
  · show (g.closed || !(pk p R j).more) = _
    rw [S.closed, hm]
    congr 1
    rw [Bool.eq_iff_iff]; simp; omega
  · show max g.reach ((pk p R j).off.toNat * 8 + (pk p R j).body.size) = _
    rw [he]
    have hr := S.reach
    have hc : (g.closed || !(pk p R j).more) = true := hc
    rw [hm, Bool.or_eq_true] at hc
    rcases hc with hc | hc
    · have := S.full hc; omega
    · have e : n = j + 1 := by simp at hc; omega
      rw [e, Nat.add_mul, Nat.one_mul] at hall
      omega
  · have hgd : (gadd g (pk p R j)).dont = (ghead g (pk p R j)).dont ∧ (gadd g (pk p R j)).ttl = (ghead g (pk p R j)).ttl := ⟨rfl, rfl⟩
    rw [hgd.1, hgd.2]
    unfold ghead
    by_cases hz : (pk p R j).off = 0 ∧ g.there 0 = false
    · rw [if_pos hz]; exact ⟨rfl, rfl⟩
    · rw [if_neg hz]
      refine S.head ?_
      have h0 : (J 0 || decide (0 = j)) = true := h0
      rw [Bool.or_eq_true, decide_eq_true_eq] at h0
      rcases h0 with h0 | h0
      · exact h0
      · subst h0
        have hoff : (pk p R 0).off = 0 := by show ((0 * R / 8 : Nat) : Int) = 0; simp
        have ht : g.there 0 = true := by
          cases ht : g.there 0 with
          | true => rfl
          | false => exact absurd ⟨hoff, ht⟩ hz
        rw [S.there, Bool.and_eq_true] at ht
        simpa using ht.2
theorem PSt.whole {J : Nat → Bool} {g : Gm} (F : Frm p mtu R n) (h2 : 2 ≤ n) (S : PSt p R n J g) : gwhole g = true ↔ ∀ j, j < n → J j = true := by
  have hR : 0 < R := by have := F.lo; omega
  rw [whole_iff S.inv]
  constructor
  · rintro ⟨hc, ha⟩ j hj
    have hin := F.inside h2 hj
    have := ha (j * R) (by rw [S.full hc]; exact hin)
    rw [S.there, Bool.and_eq_true, Nat.mul_div_cancel _ hR] at this
    exact this.2
  · intro ha
    have hc : g.closed = true := by rw [S.closed]; exact ha (n - 1) (by omega)
    refine ⟨hc, fun i hi => ?_⟩
    rw [S.full hc] at hi
    rw [S.there, decide_eq_true hi, ha _ (F.byte_lt hi)]; rfl
theorem PSt.packet {J : Nat → Bool} {g : Gm} (F : Frm p mtu R n) (h2 : 2 ≤ n) (S : PSt p R n J g) (ha : ∀ j, j < n → J j = true) : gpk g (nmOf p) = p := by
  have hw := (whole_iff S.inv).1 ((S.whole F h2).2 ha)
  have hr := S.full hw.1
  obtain ⟨h1, h3⟩ := S.head (ha 0 (by omega))
  have hb : gstr g g.reach = p.body := by
    unfold gstr
    apply ByteArray.ext
    apply Array.toList_inj.1
    apply List.ext_getElem
    · rw [hr, List.length_map, List.length_range]; exact Lib.size_eq _
    · intro i hi1 hi2
      have hi : i < p.body.size := by rw [Lib.size_eq]; exact hi2
      simp only [List.getElem_map, List.getElem_range]
      rw [S.bytes i (hw.2 i (by rw [hr]; exact hi)), List.getD_eq_getElem?_getD, List.getElem?_eq_getElem hi2, Option.getD_some]
  unfold gpk nmOf
  rw [hb, h1, h3]
  have e1 := F.more
  have e2 := F.off
  obtain ⟨src, dst, proto, ttl, id, dont, more, off, body⟩ := p
  simp only at e1 e2 ⊢
  rw [e1, e2]
end
end Go.Proofs.Ytfnmcnbiahfnfaa
