/-
  A queue whose bytes are those of one text.
-/
import Derived.Test.YthdjdfemckjebaaMt
namespace Go.Proofs.Ythdjdfemckjebaa
set_option linter.unusedVariables false
set_option linter.unusedSimpArgs false

/-- What came is X's, each byte at its place; FIN, if it is known, lies behind X; nothing lacks ahead of the first that does. -/
structure Tie (X : ByteArray) (fin : Bool) (t : St) : Prop where
  at_ : ∀ p y, t.c p = some y → 1 ≤ p ∧ p ≤ X.size ∧ y = X.data.toList.getD (p - 1) 0
  fn : t.e = 0 ∨ (fin = true ∧ t.e = X.size + 1)
  all : ∀ p, 1 ≤ p → p < t.n → (t.c p).isSome = true
theorem st0_tie (X : ByteArray) (fin : Bool) : Tie X fin st0 := ⟨fun p y h => by simp [st0] at h, Or.inl rfl, fun p h1 h2 => by have : p < 1 := h2; omega⟩
theorem size_list (X : ByteArray) : X.size = X.data.toList.length := Array.length_toList.symm
theorem extract_list' (s : ByteArray) (a b : Nat) : (s.extract a b).data.toList = (s.data.toList.take b).drop a := by
  rw [ByteArray.data_extract, Array.toList_extract, List.extract_eq_take_drop, List.drop_take]
theorem extract_size {s : ByteArray} {a b : Nat} (h : a ≤ b) (hb : b ≤ s.size) : (s.extract a b).size = b - a := by
  rw [size_list, extract_list', List.length_drop, List.length_take, ← size_list]; omega
theorem extract_getD {s : ByteArray} {a b i : Nat} (hi : a + i < b) (hb : b ≤ s.size) : (s.extract a b).data.toList.getD i 0 = s.data.toList.getD (a + i) 0 := by
  rw [extract_list', List.getD_eq_getElem?_getD, List.getElem?_drop, List.getElem?_take, if_pos hi, List.getD_eq_getElem?_getD]
section
variable {X : ByteArray} {fin : Bool} {t : St}
theorem Tie.le (h : Tie X fin t) : t.n ≤ X.size + 1 := by
  rcases Nat.lt_or_ge (X.size + 1) t.n with h1 | h1
  · have h2 := h.all (X.size + 1) (by omega) h1
    rcases hc : t.c (X.size + 1) with _ | y
    · rw [hc] at h2; cases h2
    · have := (h.at_ _ y hc).2.1; omega
  · exact h1
theorem Tie.isLe (h : Tie X fin t) {p : Nat} (hp : (t.c p).isSome = true) : 1 ≤ p ∧ p ≤ X.size := by
  rcases hc : t.c p with _ | y
  · rw [hc] at hp; cases hp
  · exact ⟨(h.at_ p y hc).1, (h.at_ p y hc).2.1⟩
theorem Tie.ov (h : Tie X fin t) (ok : Ok t) (ho : over t = true) : fin = true ∧ t.n = X.size + 1 := by
  unfold over at ho
  rw [decide_eq_true_eq] at ho
  rcases h.fn with e | ⟨e1, e2⟩
  · omega
  · exact ⟨e1, by omega⟩
/-- A piece of X is put. -/
theorem Tie.pt (h : Tie X fin t) (ok : Ok t) (a b : Nat) (hab : a ≤ b) (hb : b ≤ X.size) : Tie X fin (put t ((a : Int) + 1) (X.extract a b) (fin && decide (b = X.size))) := by
  have hz := extract_size hab hb
  unfold put
  split
  · exact h
  · refine ⟨fun p y hp => ?_, ?_, fun p h1 h2 => ?_⟩
    · have hp : cput t ((a : Int) + 1) (X.extract a b) p = some y := hp
      unfold cput at hp
      split at hp
      · exact h.at_ p y hp
      · split at hp
        · rename_i hr
          have hb2 := bh_le t ((a : Int) + 1) (X.extract a b)
          have hf : (a : Int) + 1 ≤ fr t ((a : Int) + 1) := by unfold fr; omega
          have hy := (Option.some.inj hp).symm
          unfold byt at hy
          rw [show ((p : Int) - ((a : Int) + 1)).toNat = p - 1 - a from by omega, extract_getD (by omega) hb, show a + (p - 1 - a) = p - 1 from by omega] at hy
          exact ⟨by omega, by omega, hy⟩
        · cases hp
    · show eput t ((a : Int) + 1) (X.extract a b) (fin && decide (b = X.size)) = 0 ∨ _
      unfold eput
      split
      · rename_i hk
        obtain ⟨hk, _⟩ := hk
        rw [Bool.and_eq_true, decide_eq_true_eq] at hk
        exact Or.inr ⟨hk.1, by show ((a : Int) + 1 + ((X.extract a b).size : Int)).toNat = _; omega⟩
      · exact h.fn
    · rcases Nat.lt_or_ge p t.n with h3 | h3
      · exact cput_isSome.2 (Or.inl (h.all p h1 h3))
      · exact nput_all t _ _ p h3 h2
theorem Tie.rdd (h : Tie X fin t) (m : Int) : Tie X fin (rd t m) := ⟨h.at_, h.fn, h.all⟩
/-- What is read is a piece of X. -/
theorem Tie.st (h : Tie X fin t) (a k : Nat) (ha : 1 ≤ a) (hk : a + k ≤ t.n) : str t.c a k = X.extract (a - 1) (a - 1 + k) := by
  have hle := h.le
  have e : (str t.c a k).data.toList = (X.extract (a - 1) (a - 1 + k)).data.toList := by
    have hs : (str t.c a k).data.toList = (List.range k).map fun i => (t.c (a + i)).getD 0 := by simp [str]
    rw [hs]
    refine List.ext_getElem? fun i => ?_
    rw [List.getElem?_map, extract_list', List.getElem?_drop, List.getElem?_take]
    rcases Nat.lt_or_ge i k with hi | hi
    · rw [List.getElem?_range hi, if_pos (by omega)]
      have h1 := h.all (a + i) (by omega) (by omega)
      rcases hc : t.c (a + i) with _ | y
      · rw [hc] at h1; cases h1
      · obtain ⟨h2, h3, h4⟩ := h.at_ _ y hc
        have h5 : a - 1 + i < X.data.toList.length := by rw [← size_list]; omega
        rw [List.getElem?_eq_getElem h5]
        simp only [Option.map_some, Option.some.injEq]
        rw [hc]
        simp only [Option.getD_some]
        rw [h4, List.getD_eq_getElem?_getD, show a + i - 1 = a - 1 + i from by omega, List.getElem?_eq_getElem h5, Option.getD_some]
    · rw [List.getElem?_eq_none (by simp; omega), if_neg (by omega)]; rfl
  cases hA : str t.c a k
  cases hB : X.extract (a - 1) (a - 1 + k)
  rw [hA, hB] at e
  congr 1
  exact Array.toList_inj.1 e
end
theorem extract_app (X : ByteArray) {a b c : Nat} (h1 : a ≤ b) (h2 : b ≤ c) (h3 : c ≤ X.size) : X.extract a b ++ X.extract b c = X.extract a c := by
  have e : (X.extract a b ++ X.extract b c).data.toList = (X.extract a c).data.toList := by
    rw [ByteArray.data_append, Array.toList_append, extract_list', extract_list', extract_list']
    refine List.ext_getElem? fun i => ?_
    rw [List.getElem?_append, List.length_drop, List.length_take, ← size_list]
    simp only [List.getElem?_drop, List.getElem?_take]
    split
    · rw [if_pos (by omega), if_pos (by omega)]
    · rw [show b + (i - (min b X.size - a)) = a + i from by omega]
  cases hA : X.extract a b ++ X.extract b c
  cases hB : X.extract a c
  rw [hA, hB] at e
  congr 1
  exact Array.toList_inj.1 e
theorem extract_all (X : ByteArray) : X.extract 0 X.size = X := by
  have e : (X.extract 0 X.size).data.toList = X.data.toList := by rw [extract_list', size_list, List.take_length, List.drop_zero]
  cases hA : X.extract 0 X.size
  cases X
  rw [hA] at e
  congr 1
  exact Array.toList_inj.1 e

/-- The edge: it does not go back. -/
theorem nxt_wnd {t : St} (h : over t = false) : (nxt t : Int) + wnd t = (t.f : Int) + 2048 := by
  have : nxt t = t.n := by unfold nxt; rw [h]; simp
  rw [this]; unfold wnd; omega
theorem nxt_put_ge {t : St} (ok : Ok t) (q : Int) (x : ByteArray) (fin : Bool) : nxt t ≤ nxt (put t q x fin) := by
  cases ho : over t with
  | true =>
    have : put t q x fin = t := by unfold put; rw [if_pos (by unfold off; rw [ho]; simp)]
    rw [this]; exact Nat.le_refl _
  | false =>
    have h1 : nxt t = t.n := by unfold nxt; rw [ho]; simp
    have h2 : t.n ≤ (put t q x fin).n := by
      unfold put
      split
      · exact Nat.le_refl _
      · exact nput_ge t q x
    have h3 : (put t q x fin).n ≤ nxt (put t q x fin) := by unfold nxt; split <;> omega
    omega
theorem put_over {t : St} {q : Int} {x : ByteArray} {fin : Bool} (ho : over t = true) : put t q x fin = t := by unfold put; rw [if_pos (by unfold off; rw [ho]; simp)]
/-- A piece that fits is taken whole. -/
theorem Tie.took {X : ByteArray} {fin : Bool} {t : St} (h : Tie X fin t) (ok : Ok t) (a b : Nat) (hab : a ≤ b) (hb : b ≤ X.size) (hba : b ≤ a + 900) (haf : a < t.f) (hf : t.f ≤ 1152921504606846000) :
    b + 1 ≤ (put t ((a : Int) + 1) (X.extract a b) (fin && decide (b = X.size))).n ∧ (b = X.size → over (put t ((a : Int) + 1) (X.extract a b) (fin && decide (b = X.size))) = fin) := by
  obtain ⟨u, hu⟩ : ∃ u, u = put t ((a : Int) + 1) (X.extract a b) (fin && decide (b = X.size)) := ⟨_, rfl⟩
  have ht := h.pt ok a b hab hb
  have ok2 := ok.put ((a : Int) + 1) (X.extract a b) (fin && decide (b = X.size))
  rw [← hu] at ht ok2 ⊢
  have hz := extract_size hab hb
  have hle := ht.le
  cases ho : over t with
  | true =>
    obtain ⟨h1, h2⟩ := h.ov ok ho
    rw [put_over ho] at hu
    subst hu
    exact ⟨by omega, fun _ => by rw [ho, h1]⟩
  | false =>
    have hoff : off t ((a : Int) + 1) = false := by unfold off; rw [ho, decide_eq_false (by omega)]; rfl
    have hu2 : u = ⟨cput t ((a : Int) + 1) (X.extract a b), t.f, nput t ((a : Int) + 1) (X.extract a b), rput t ((a : Int) + 1) (X.extract a b), eput t ((a : Int) + 1) (X.extract a b) (fin && decide (b = X.size))⟩ := by
      rw [hu]; unfold put; rw [if_neg (by rw [hoff]; simp)]
    have uc : u.c = cput t ((a : Int) + 1) (X.extract a b) := by rw [hu2]
    have un : u.n = nput t ((a : Int) + 1) (X.extract a b) := by rw [hu2]
    have ur : u.r = rput t ((a : Int) + 1) (X.extract a b) := by rw [hu2]
    have ue : u.e = eput t ((a : Int) + 1) (X.extract a b) (fin && decide (b = X.size)) := by rw [hu2]
    clear hu hu2
    have hn := nput_ge t ((a : Int) + 1) (X.extract a b)
    have hn1 : b + 1 ≤ u.n := by
      rcases Nat.lt_or_ge u.n (b + 1) with h1 | h1
      · exfalso
        have h2 := ok2.at'
        have h3 : (u.c u.n).isSome = true := by
          rw [uc]
          refine cput_isSome.2 ?_
          rcases Nat.lt_or_ge a u.n with h4 | h4
          · refine Or.inr ⟨by unfold fr; omega, ?_⟩
            have := ok.fn
            unfold bh
            rcases h.fn with e | ⟨_, e⟩
            · rw [e]; simp; omega
            · split <;> omega
          · exact Or.inl (h.all u.n (by have := ok2.f1; have := ok2.fn; omega) (by have := ok.fn; omega))
        rw [h2] at h3; cases h3
      · exact h1
    refine ⟨hn1, fun hbX => ?_⟩
    have hnX : u.n = X.size + 1 := by omega
    cases fin with
    | false =>
      rcases ht.fn with e | ⟨e, _⟩
      · unfold over; rw [e]; simp
      · cases e
    | true =>
      have he : u.e = X.size + 1 := by
        rcases h.fn with e | ⟨_, e⟩
        · have hk : kn t ((a : Int) + 1) (X.extract a b) := by
            refine ⟨e, by have := h.le; omega, by omega, ?_⟩
            rcases ok2.rx with e1 | ⟨p, hp, e1⟩
            · omega
            · have := ht.isLe hp; omega
          rw [ue]; unfold eput
          rw [if_pos ⟨by simp [hbX], hk⟩]; omega
        · rw [ue]; unfold eput
          rw [if_neg (fun hk => by have := hk.2.1; omega)]; exact e
      unfold over
      rw [he, hnX]; simp
end Go.Proofs.Ythdjdfemckjebaa
