/-
  The pieces of a text at a byte, the contract of the document's answer's AddrParse.
-/
import Derived.Test.YthdmbggpokaggaaDoorRefC
import Derived.Test.YthdmbggpokaggaaDoorParse
import Derived.Test.YthdmbggpokaggaaDoorShelfS
namespace Go.Proofs.YthdmbggpokaggaaDoor
open Go.RowKit
set_option linter.unusedVariables false

/-- A text's pieces between the bytes c. -/
def pcs (c : UInt8) (l : List UInt8) : List (List UInt8) := Lib.splitK [c] 0 (Lib.count l [c]) l
theorem pcs_miss (c : UInt8) (l : List UInt8) (h : (cutL c l).2.2 = false) : pcs c l = [l] ∧ Lib.count l [c] = 0 ∧ (cutL c l).1 = l := by
  rcases idx_cut c l with ⟨h1, h2⟩ | ⟨i, h1, h2, h3⟩
  · have hi : Lib.index l [c] = -1 := by rw [Lib.index_one]; exact h1
    have hc := Lib.count_miss hi
    refine ⟨?_, hc, by rw [h2]⟩
    unfold pcs; rw [hc]; rfl
  · rw [h3] at h; cases h
theorem pcs_hit (c : UInt8) (l : List UInt8) (h : (cutL c l).2.2 = true) : pcs c l = (cutL c l).1 :: pcs c (cutL c l).2.1 ∧ Lib.count l [c] = 1 + Lib.count (cutL c l).2.1 [c] := by
  rcases idx_cut c l with ⟨h1, h2⟩ | ⟨i, h1, h2, h3⟩
  · rw [h2] at h; cases h
  · have hi : Lib.index l [c] = (i : Int) := by rw [Lib.index_one]; exact h1
    have hc := Lib.count_hit (sub := [c]) (by simp) hi
    rw [h3]
    refine ⟨?_, hc⟩
    unfold pcs
    rw [hc, Nat.add_comm 1, Lib.splitK, if_neg (by rw [hi]; simp), hi]
    simp
theorem pcs_facts (c : UInt8) : ∀ (n : Nat) (l : List UInt8), l.length ≤ n → (pcs c l).length = Lib.count l [c] + 1 ∧ ∀ p ∈ pcs c l, p.length ≤ l.length := by
  intro n
  induction n with
  | zero =>
    intro l hl
    have h0 : l = [] := List.length_eq_zero_iff.1 (by omega)
    subst h0
    have := pcs_miss c [] rfl
    rw [this.1, this.2.1]
    exact ⟨rfl, fun p hp => by simp at hp; subst hp; simp⟩
  | succ n ih =>
    intro l hl
    cases h : (cutL c l).2.2
    · have := pcs_miss c l h
      rw [this.1, this.2.1]
      exact ⟨rfl, fun p hp => by simp at hp; subst hp; omega⟩
    · have h1 := pcs_hit c l h
      have h2 := cutL_len c l
      have h3 := (cutL_back c l).2.1 h
      have h4 : (cutL c l).2.1.length < l.length := by
        have := congrArg List.length h3
        simp at this; omega
      have h5 := ih (cutL c l).2.1 (by omega)
      rw [h1.1, h1.2]
      refine ⟨by rw [List.length_cons, h5.1]; omega, fun p hp => ?_⟩
      rcases List.mem_cons.1 hp with rfl | hp
      · exact h2.1
      · exact Nat.le_trans (h5.2 p hp) h2.2
theorem pcs_cells (c : UInt8) (l : List UInt8) : ((Lib.splitB ⟨#[c]⟩ 0 (Lib.countB ⟨l.toArray⟩ ⟨#[c]⟩) ⟨l.toArray⟩).map Value.string).toArray = ((pcs c l).map fun p => Value.string ⟨p.toArray⟩).toArray := by
  have h : (Lib.splitB ⟨#[c]⟩ 0 (Lib.countB ⟨l.toArray⟩ ⟨#[c]⟩) ⟨l.toArray⟩).map (·.data.toList) = pcs c l := Lib.splitB_data ⟨#[c]⟩ 0 _ ⟨l.toArray⟩
  rw [← h, List.map_map]
  congr 1

/-- The number of four pieces. -/
def foldP : Nat → List (List UInt8) → Option Nat
  | a, [] => some a
  | a, p :: ps => match numL 255 p with | none => none | some n => foldP (a * 256 + n) ps
theorem parseN_pcs : ∀ (k a : Nat) (l : List UInt8), parseN (k + 1) a l = if (pcs 46 l).length = k + 1 then foldP a (pcs 46 l) else none := by
  intro k
  induction k with
  | zero =>
    intro a l
    rw [parseN]
    cases h : (cutL 46 l).2.2
    · have h1 := pcs_miss 46 l h
      rw [if_pos (by simp), h1.1, if_pos (by rfl), h1.2.2]
      unfold foldP
      cases numL 255 l <;> rfl
    · have h1 := pcs_hit 46 l h
      have h2 := (pcs_facts 46 _ (cutL 46 l).2.1 (Nat.le_refl _)).1
      rw [if_neg (by simp), if_neg (by rw [h1.1, List.length_cons, h2]; omega)]
  | succ k ih =>
    intro a l
    rw [parseN]
    cases h : (cutL 46 l).2.2
    · have h1 := pcs_miss 46 l h
      rw [if_neg (by simp), if_neg (by rw [h1.1]; simp)]
    · have h1 := pcs_hit 46 l h
      rw [if_pos (by simp), h1.1]
      simp only [List.length_cons, Nat.add_right_cancel_iff]
      simp only [foldP]
      cases numL 255 (cutL 46 l).1 with
      | none => simp
      | some n => simp only; exact ih _ _
theorem parse_pcs (l : List UInt8) : parseL l = if (pcs 46 l).length = 4 then foldP 0 (pcs 46 l) else none := parseN_pcs 3 0 l
theorem cnt_lt {l : List UInt8} : (numL 255 l = none ∧ cnt 255 l = -1) ∨ ∃ n, numL 255 l = some n ∧ n ≤ 255 ∧ cnt 255 l = (n : Int) := by
  cases h : numL 255 l with
  | none => exact .inl ⟨rfl, cnt_none h⟩
  | some n => exact .inr ⟨n, rfl, (dec_of_numL h).2, cnt_some h⟩

set_option maxHeartbeats 4000000 in
theorem rparse_any (l : List UInt8) (m : Int) (w : World) (hl : l.length < 4294967281) (hm : w.cell? ⟨1, 0, none⟩ = some (.int .i64 m)) :
    Calls Tryd.prog 9 #[.string ⟨l.toArray⟩] w fun e w' => e = .returned (ended (parseL l)) ∧ Below w.heap.size w w' := by
  obtain ⟨hlen, hin⟩ := pcs_facts 46 _ l (Nat.le_refl _)
  have HS : Hid (Calls Tryd.prog 25 #[.string ⟨l.toArray⟩, .string ⟨#[46]⟩] w fun e w' =>
      e = .returned (.slice (some ⟨w.heap.size, 0, none⟩) (pcs 46 l).length (pcs 46 l).length) ∧ w' = w.alloc (.cells ((pcs 46 l).map fun p => Value.string ⟨p.toArray⟩).toArray 9)) := by
    have := Tryd.strings_Split ⟨l.toArray⟩ ⟨#[46]⟩ m w (by rw [ba_size]; omega) hm (by decide)
    rw [pcs_cells] at this
    have hc : Lib.countB ⟨l.toArray⟩ ⟨#[46]⟩ + 1 = (pcs 46 l).length := by rw [hlen]
    rw [hc] at this
    exact this
  have hb0 : ∀ o, Below w.heap.size w (w.alloc o) := fun o => (Below.refl _ _).alloc (Nat.le_refl _) _
  have HP := Lib.hid (parse_pcs l)
  have HCt : Hid (∀ (p : List UInt8) w', p.length ≤ 281474976710656 → Calls Tryd.prog 26 #[.string ⟨p.toArray⟩, .int .i64 255] w' fun e w'' => e = .returned (.int .i64 (cnt 255 p)) ∧ w'' = w') := fun p w' h => count_any 255 p w' h (by omega)
  have HIn : Hid (∀ p ∈ pcs 46 l, p.length ≤ 281474976710656) := fun p hp => Nat.le_trans (hin p hp) (by omega)
  have HLn : Hid ((pcs 46 l).length ≤ 4294967290) := by
    show _ ≤ _
    rw [hlen]; have := Lib.count_le l [46]; omega
  clear hlen hin hm
  generalize pcs 46 l = P at *
  by_cases h4 : P.length = 4
  · have hp : parseL l = foldP 0 P := by rw [HP.out, if_pos h4]
    have HF := Lib.hid hp
    rw [h4] at HS
    clear hp HP HLn
    go_enter Tryd.func9, Tryd.ntmps9
    go_wp2_with fail
    refine HS.out.mono ?_; rintro e w1 ⟨rfl, rfl⟩
    have CL : Hid (∀ (k : Nat) (hk : k < P.length), (w.alloc (.cells (P.map fun p => Value.string ⟨p.toArray⟩).toArray 9)).cell? ⟨w.heap.size, k, none⟩ = some (.string ⟨P[k].toArray⟩)) := fun k hk => by
      have := World.cell?_alloc_mark w (P.map fun p => Value.string ⟨p.toArray⟩).toArray 9 (0, 0) k
      refine this.trans ?_
      simp [List.getElem?_eq_getElem hk]
    have HB := Lib.hid (hb0 (.cells (P.map fun p => Value.string ⟨p.toArray⟩).toArray 9))
    clear HS hb0
    generalize w.alloc (.cells (P.map fun p => Value.string ⟨p.toArray⟩).toArray 9) = W1 at *
    go_wp2_with fail
    go_loopw [5, 16] (fun s5 s16 W => W = W1 ∧ ∃ (k a : Nat), k ≤ 4 ∧ s16 = .int .i64 k ∧ s5 = .int .u32 a ∧ a < 256 ^ k ∧ Hid (foldP a (P.drop k) = foldP 0 P)) (fun _ i _ => 4 - (intOf i).toNat)
    case atStart => exact ⟨rfl, 0, 0, by omega, rfl, rfl, by simp, by show _ = _; rfl⟩
    case round =>
      obtain ⟨rfl, k, a, hk, rfl, rfl, ha, HR⟩ := hrel
      have hk5 : k = 4 ∨ k < 4 := by omega
      rcases hk5 with rfl | hlt
      · have hp : parseL l = some a := by
          rw [HF.out, ← HR.out, List.drop_of_length_le (by omega)]; rfl
        have hp := Lib.hid hp
        go_wp2
        go_ret2
        exact ⟨by rw [hp.out]; rfl, HB.out⟩
      · have hkP : k < P.length := by omega
        have ck := CL.out k hkP
        have HC1 := Lib.hid (fun w' => HCt.out P[k] w' (HIn.out _ (List.getElem_mem hkP)))
        have HD : Hid (P.drop k = P[k] :: P.drop (k + 1)) := by show _ = _; exact List.drop_eq_getElem_cons hkP
        have HQ : Hid (foldP 0 P = match numL 255 P[k] with | none => none | some n => foldP (a * 256 + n) (P.drop (k + 1))) := by
          show _ = _
          rw [← HR.out, HD.out, foldP]
        have hcn := cnt_lt (l := P[k])
        generalize P[k] = p at *
        clear CL HCt HIn HD HR
        rcases hcn with ⟨hn, hc⟩ | ⟨n, hn, hn2, hc⟩
        · have hp := Lib.hid (show parseL l = none by rw [HF.out, HQ.out, hn])
          rw [hc] at HC1
          clear hn hc HQ HF
          have hk4 : k = 0 ∨ k = 1 ∨ k = 2 ∨ k = 3 := by omega
          rcases hk4 with rfl | rfl | rfl | rfl
          all_goals
            go_wp2_with fail
            refine (HC1.out _).mono ?_; rintro e w2 ⟨rfl, rfl⟩
            go_wp2
            go_ret2
            exact ⟨by rw [hp.out]; rfl, HB.out⟩
        · have HR2 : Hid (foldP (a * 256 + n) (P.drop (k + 1)) = foldP 0 P) := by show _ = _; rw [HQ.out, hn]
          have ha2 : a < 16777216 := by
            refine Nat.lt_of_lt_of_le ha (Nat.le_trans (Nat.pow_le_pow_right (by omega) (show k ≤ 3 by omega)) (by decide))
          have ha3 : a * 256 + n < 256 ^ (k + 1) := by rw [Nat.pow_succ]; omega
          rw [hc] at HC1
          clear hn hc HQ
          have hk4 : k = 0 ∨ k = 1 ∨ k = 2 ∨ k = 3 := by omega
          rcases hk4 with rfl | rfl | rfl | rfl
          all_goals
            go_wp2_with fail
            refine (HC1.out _).mono ?_; rintro e w2 ⟨rfl, rfl⟩
            go_wp2
            go_roundw
            case rel => exact ⟨by first | trivial | rfl, _, a * 256 + n, by decide, rfl, by first | rfl | (congr 1; omega), ha3, HR2⟩
            case measure => simp [intOf]
  · have hp := Lib.hid (show parseL l = none by rw [HP.out, if_neg h4])
    have h4' : (((P.length : Nat) : Int) == 4) = false := by simp; omega
    have h4'' : ¬ ((P.length : Nat) : Int) = 4 := by omega
    have HB := Lib.hid (hb0 (.cells (P.map fun p => Value.string ⟨p.toArray⟩).toArray 9))
    generalize w.alloc (.cells (P.map fun p => Value.string ⟨p.toArray⟩).toArray 9) = W1 at *
    generalize P.length = N at *
    clear HP hb0 HIn HCt
    go_enter Tryd.func9, Tryd.ntmps9
    go_wp2_with fail
    refine HS.out.mono ?_; rintro e w1 ⟨rfl, rfl⟩
    go_wp2
    go_ret2
    exact ⟨by rw [hp.out]; rfl, HB.out⟩
end Go.Proofs.YthdmbggpokaggaaDoor
