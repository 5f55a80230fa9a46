/-
  The options: what they tell (mo); contracts of optionLen and mssOf (package tcp).
-/
import Derived.Test.YtggoipdmiajckaaFlt
import Derived.WalkMore
namespace Go.Proofs.Ytggoipdmiajckaa
open Go.RowKit
set_option linter.unusedVariables false
set_option linter.unusedSimpArgs false

/-- How many bytes the first one of the options has; 0, if it isn't in its form. -/
def ol (t : ByteArray) : Nat := if t.size < 2 then 0 else if (bt t 1).toNat < 2 then 0 else if t.size < (bt t 1).toNat then 0 else if bt t 0 = 2 ∧ (bt t 1).toNat ≠ 4 then 0 else (bt t 1).toNat

theorem u8_eq (a : UInt8) (k : Nat) (hk : k < 256) (b : UInt8) (hb : b.toNat = k) : (((a.toNat : Int)) == (k : Int)) = decide (a = b) := by
  by_cases h : a = b
  · subst h; simp [hb]
  · have : a.toNat ≠ k := fun e => h (UInt8.toNat_inj.1 (e.trans hb.symm))
    rw [decide_eq_false h]
    simp; omega

theorem optionLen_any (t : ByteArray) (w : World) (hs : t.size ≤ 281474976710656) :
    Calls Try.prog 42 #[.string t] w fun e w' => e = .returned (.int .i64 (ol t : Int)) ∧ w' = w := by
  by_cases c1 : t.size < 2
  · have HR : Hid (ol t = 0) := by show _ = _; unfold ol; rw [if_pos c1]
    have d1 : (t.size : Int) < 2 := by omega
    generalize ol t = R at *
    go_enter Try.func42, Try.ntmps42
    go_wp2
    go_ret
    exact ⟨ret_int (by rw [HR.out]; rfl), rfl⟩
  have d1 : ¬ (t.size : Int) < 2 := by omega
  have HR : Hid (ol t = if (bt t 1).toNat < 2 then 0 else if t.size < (bt t 1).toNat then 0 else if bt t 0 = 2 ∧ (bt t 1).toNat ≠ 4 then 0 else (bt t 1).toNat) := by show _ = _; unfold ol; rw [if_neg c1]
  have i0 : ∀ w', (Instr.index 9 (.string t) (.int .i64 0)).run Try.prog w' = .ok (.int .u8 ((bt t 0).toNat : Int)) w' := fun w' => ix_run t 0 0 rfl (by omega) w'
  have i1 : ∀ w', (Instr.index 9 (.string t) (.int .i64 1)).run Try.prog w' = .ok (.int .u8 ((bt t 1).toNat : Int)) w' := fun w' => ix_run t 1 1 rfl (by omega) w'
  have hl := (bt t 1).toNat_lt
  have HK : Hid (((((bt t 0).toNat : Int)) == 2) = decide (bt t 0 = 2)) := u8_eq (bt t 0) 2 (by omega) 2 rfl
  generalize ol t = R at *
  generalize (bt t 1).toNat = Z at *
  generalize bt t 0 = k at *
  generalize (k.toNat : Int) = K at *
  have v1 : IntKind.i64.wrap (Z : Int) = (Z : Int) := wraps_i64 _ (by omega) (by omega)
  by_cases c2 : Z < 2
  · have d2 : (Z : Int) < 2 := by omega
    go_enter Try.func42, Try.ntmps42
    go_wp2
    go_ret
    exact ⟨ret_int (by rw [HR.out, if_pos c2]; rfl), rfl⟩
  have d2 : ¬ (Z : Int) < 2 := by omega
  by_cases c3 : t.size < Z
  · have d3 : (t.size : Int) < (Z : Int) := by omega
    go_enter Try.func42, Try.ntmps42
    go_wp2
    go_ret
    exact ⟨ret_int (by rw [HR.out, if_neg c2, if_pos c3]; rfl), rfl⟩
  have d3 : ¬ (t.size : Int) < (Z : Int) := by omega
  by_cases c4 : k = 2
  · have d4 : (K == 2) = true := by rw [HK.out]; simpa using c4
    by_cases c5 : Z ≠ 4
    · have d5 : ((Z : Int) != 4) = true := by simp; omega
      go_enter Try.func42, Try.ntmps42
      go_wp2
      go_ret
      exact ⟨ret_int (by rw [HR.out, if_neg c2, if_neg c3, if_pos ⟨c4, c5⟩]; rfl), rfl⟩
    · have d5 : ((Z : Int) != 4) = false := by simp; omega
      go_enter Try.func42, Try.ntmps42
      go_wp2
      go_ret
      exact ⟨ret_int (by rw [HR.out, if_neg c2, if_neg c3, if_neg (fun h => c5 h.2)]), rfl⟩
  · have d4 : (K == 2) = false := by rw [HK.out]; simpa using c4
    go_enter Try.func42, Try.ntmps42
    go_wp2
    go_ret
    exact ⟨ret_int (by rw [HR.out, if_neg c2, if_neg c3, if_neg (fun h => c4 h.1)]), rfl⟩

/-- The options of a text from a on, up to z: the Mss that they tell (m: so far), none, if they are not in their form. -/
def mo (s : ByteArray) (z : Nat) : Nat → Nat → Nat → Option Nat
  | 0, _, m => some m
  | n + 1, a, m => if z ≤ a then some m else if bt s a = 0 then some m else if bt s a = 1 then mo s z n (a + 1) m else
      if z < a + 2 ∨ (bt s (a + 1)).toNat < 2 ∨ z < a + (bt s (a + 1)).toNat ∨ bt s a = 2 ∧ (bt s (a + 1)).toNat ≠ 4 then none else
      mo s z n (a + (bt s (a + 1)).toNat) (if bt s a = 2 then tw s (a + 2) else m)

theorem mo_end (s : ByteArray) (z n a m : Nat) (h : z ≤ a) : mo s z n a m = some m := by
  cases n with
  | zero => rfl
  | succ n => unfold mo; rw [if_pos h]
/-- More steps than bytes don't matter. -/
theorem mo_fuel (s : ByteArray) (z : Nat) : ∀ n n' a m, z - a ≤ n → z - a ≤ n' → mo s z n a m = mo s z n' a m := by
  intro n
  induction n with
  | zero => intro n' a m h _; rw [mo_end s z n' a m (by omega)]; rfl
  | succ n ih =>
    intro n' a m h h'
    by_cases hz : z ≤ a
    · rw [mo_end _ _ _ _ _ hz, mo_end _ _ _ _ _ hz]
    · obtain ⟨k, rfl⟩ : ∃ k, n' = k + 1 := ⟨n' - 1, by omega⟩
      unfold mo
      rw [if_neg hz, if_neg hz]
      split
      · rfl
      · split
        · exact ih _ _ _ (by omega) (by omega)
        · split
          · rfl
          · rename_i hb
            have : ¬ (bt s (a + 1)).toNat < 2 := fun x => hb (Or.inr (Or.inl x))
            exact ih _ _ _ (by omega) (by omega)
theorem mo_0 {s : ByteArray} {z a m n : Nat} (h : a < z) (hn : z - a ≤ n) (k : bt s a = 0) : mo s z n a m = some m := by
  obtain ⟨j, rfl⟩ : ∃ j, n = j + 1 := ⟨n - 1, by omega⟩
  unfold mo; rw [if_neg (by omega), if_pos k]
theorem mo_1 {s : ByteArray} {z a m n : Nat} (h : a < z) (hn : z - a ≤ n) (k : bt s a = 1) : mo s z n a m = mo s z n (a + 1) m := by
  obtain ⟨j, rfl⟩ : ∃ j, n = j + 1 := ⟨n - 1, by omega⟩
  rw [show mo s z (j + 1) a m = mo s z j (a + 1) m from by
    show (if z ≤ a then some m else _) = _
    rw [if_neg (by omega), if_neg (by rw [k]; decide), if_pos k]]
  exact mo_fuel _ _ _ _ _ _ (by omega) (by omega)
theorem mo_bad {s : ByteArray} {z a m n : Nat} (h : a < z) (hn : z - a ≤ n) (k0 : bt s a ≠ 0) (k1 : bt s a ≠ 1) (hb : z < a + 2 ∨ (bt s (a + 1)).toNat < 2 ∨ z < a + (bt s (a + 1)).toNat ∨ bt s a = 2 ∧ (bt s (a + 1)).toNat ≠ 4) : mo s z n a m = none := by
  obtain ⟨j, rfl⟩ : ∃ j, n = j + 1 := ⟨n - 1, by omega⟩
  unfold mo; rw [if_neg (by omega), if_neg k0, if_neg k1, if_pos hb]
theorem mo_go {s : ByteArray} {z a m n : Nat} (h : a < z) (hn : z - a ≤ n) (k0 : bt s a ≠ 0) (k1 : bt s a ≠ 1) (hb : ¬ (z < a + 2 ∨ (bt s (a + 1)).toNat < 2 ∨ z < a + (bt s (a + 1)).toNat ∨ bt s a = 2 ∧ (bt s (a + 1)).toNat ≠ 4)) : mo s z n a m = mo s z n (a + (bt s (a + 1)).toNat) (if bt s a = 2 then tw s (a + 2) else m) := by
  have h2 : ¬ (bt s (a + 1)).toNat < 2 := fun x => hb (Or.inr (Or.inl x))
  obtain ⟨j, rfl⟩ : ∃ j, n = j + 1 := ⟨n - 1, by omega⟩
  rw [show mo s z (j + 1) a m = mo s z j (a + (bt s (a + 1)).toNat) (if bt s a = 2 then tw s (a + 2) else m) from by
    show (if z ≤ a then some m else _) = _
    rw [if_neg (by omega), if_neg k0, if_neg k1, if_neg hb]]
  exact mo_fuel _ _ _ _ _ _ (by omega) (by omega)
theorem mo_le (s : ByteArray) (z : Nat) : ∀ n a m r, m ≤ 65535 → mo s z n a m = some r → r ≤ 65535 := by
  intro n
  induction n with
  | zero => intro a m r hm h; unfold mo at h; injection h with h; omega
  | succ n ih =>
    intro a m r hm h
    unfold mo at h
    split at h
    · injection h with h; omega
    · split at h
      · injection h with h; omega
      · split at h
        · exact ih _ _ _ hm h
        · split at h
          · cases h
          · refine ih _ _ _ ?_ h
            split
            · exact tw_le _ _
            · exact hm

theorem bt_extract (s : ByteArray) (a b k : Nat) (h : a + k < b) (hb : b ≤ s.size) : bt (s.extract a b) k = bt s (a + k) := by
  unfold bt
  rw [extract_list, List.getD_eq_getElem?_getD, List.getD_eq_getElem?_getD, List.getElem?_drop, List.getElem?_take_of_lt h]
theorem tw_extract (s : ByteArray) (a b k : Nat) (h : a + k + 1 < b) (hb : b ≤ s.size) : tw (s.extract a b) k = tw s (a + k) := by
  unfold tw; rw [bt_extract s a b k (by omega) hb, bt_extract s a b (k + 1) (by omega) hb]; rfl
/-- The options, cut out of their text. -/
theorem mo_extract (s : ByteArray) (b : Nat) (hb : b ≤ s.size) (h20 : 20 ≤ b) : ∀ n a m, mo (s.extract 20 b) (b - 20) n a m = mo s b n (20 + a) m := by
  intro n
  induction n with
  | zero => intro a m; rfl
  | succ n ih =>
    intro a m
    by_cases hz : b - 20 ≤ a
    · rw [mo_end _ _ _ _ _ hz, mo_end _ _ _ _ _ (by omega)]
    · show (if b - 20 ≤ a then some m else _) = (if b ≤ 20 + a then some m else _)
      rw [if_neg hz, if_neg (show ¬ b ≤ 20 + a by omega), bt_extract s 20 b a (by omega) hb]
      by_cases k0 : bt s (20 + a) = 0
      · rw [if_pos k0, if_pos k0]
      rw [if_neg k0, if_neg k0]
      by_cases k1 : bt s (20 + a) = 1
      · rw [if_pos k1, if_pos k1]; exact ih _ _
      rw [if_neg k1, if_neg k1]
      by_cases h2 : b < 20 + a + 2
      · rw [if_pos (Or.inl (by omega)), if_pos (Or.inl h2)]
      rw [bt_extract s 20 b (a + 1) (by omega) hb, show 20 + (a + 1) = 20 + a + 1 from by omega]
      by_cases hc : (b - 20 < a + 2 ∨ (bt s (20 + a + 1)).toNat < 2 ∨ b - 20 < a + (bt s (20 + a + 1)).toNat ∨ bt s (20 + a) = 2 ∧ (bt s (20 + a + 1)).toNat ≠ 4)
      · have hc' : (b < 20 + a + 2 ∨ (bt s (20 + a + 1)).toNat < 2 ∨ b < 20 + a + (bt s (20 + a + 1)).toNat ∨ bt s (20 + a) = 2 ∧ (bt s (20 + a + 1)).toNat ≠ 4) := by
          rcases hc with h | h | h | h
          · exact Or.inl (by omega)
          · exact Or.inr (Or.inl h)
          · exact Or.inr (Or.inr (Or.inl (by omega)))
          · exact Or.inr (Or.inr (Or.inr h))
        rw [if_pos hc, if_pos hc']
      · have hc' : ¬ (b < 20 + a + 2 ∨ (bt s (20 + a + 1)).toNat < 2 ∨ b < 20 + a + (bt s (20 + a + 1)).toNat ∨ bt s (20 + a) = 2 ∧ (bt s (20 + a + 1)).toNat ≠ 4) := fun x => by
          rcases x with h | h | h | h
          · omega
          · exact hc (Or.inr (Or.inl h))
          · exact hc (Or.inr (Or.inr (Or.inl (by omega))))
          · exact hc (Or.inr (Or.inr (Or.inr h)))
        rw [if_neg hc, if_neg hc']
        rw [ih, show 20 + (a + (bt s (20 + a + 1)).toNat) = 20 + a + (bt s (20 + a + 1)).toNat from by omega]
        by_cases k2 : bt s (20 + a) = 2
        · have h4 : (bt s (20 + a + 1)).toNat = 4 := by
            rcases Nat.decEq (bt s (20 + a + 1)).toNat 4 with h | h
            · exact absurd (Or.inr (Or.inr (Or.inr ⟨k2, h⟩))) hc
            · exact h
          have h5 : ¬ b - 20 < a + (bt s (20 + a + 1)).toNat := fun x => hc (Or.inr (Or.inr (Or.inl x)))
          rw [if_pos k2, if_pos k2, tw_extract s 20 b (a + 2) (by omega) hb, show 20 + (a + 2) = 20 + a + 2 from by omega]
        · rw [if_neg k2, if_neg k2]

/-- The length of an option, in its place. -/
theorem ol_at (s : ByteArray) (a : Nat) (h : a < s.size) : (ol (s.extract a s.size) = 0 ↔ s.size < a + 2 ∨ (bt s (a + 1)).toNat < 2 ∨ s.size < a + (bt s (a + 1)).toNat ∨ bt s a = 2 ∧ (bt s (a + 1)).toNat ≠ 4) ∧ (ol (s.extract a s.size) ≠ 0 → ol (s.extract a s.size) = (bt s (a + 1)).toNat) := by
  have z : (s.extract a s.size).size = s.size - a := by simp
  unfold ol
  rw [z]
  by_cases h2 : s.size - a < 2
  · rw [if_pos h2]; exact ⟨⟨fun _ => Or.inl (by omega), fun _ => rfl⟩, fun x => absurd rfl x⟩
  have e0 : bt (s.extract a s.size) 0 = bt s a := bt_extract s a s.size 0 (by omega) (Nat.le_refl _)
  have e1 : bt (s.extract a s.size) 1 = bt s (a + 1) := bt_extract s a s.size 1 (by omega) (Nat.le_refl _)
  rw [if_neg h2, e0, e1]
  by_cases h3 : (bt s (a + 1)).toNat < 2
  · rw [if_pos h3]; exact ⟨⟨fun _ => Or.inr (Or.inl h3), fun _ => rfl⟩, fun x => absurd rfl x⟩
  rw [if_neg h3]
  by_cases h4 : s.size - a < (bt s (a + 1)).toNat
  · rw [if_pos h4]; exact ⟨⟨fun _ => Or.inr (Or.inr (Or.inl (by omega))), fun _ => rfl⟩, fun x => absurd rfl x⟩
  rw [if_neg h4]
  by_cases h5 : bt s a = 2 ∧ (bt s (a + 1)).toNat ≠ 4
  · rw [if_pos h5]; exact ⟨⟨fun _ => Or.inr (Or.inr (Or.inr h5)), fun _ => rfl⟩, fun x => absurd rfl x⟩
  rw [if_neg h5]
  refine ⟨⟨fun x => by omega, fun x => ?_⟩, fun _ => rfl⟩
  rcases x with x | x | x | x
  · omega
  · omega
  · omega
  · exact absurd x h5

/-- What mssOf tells beside the Mss. -/
def me (r : Option Nat) : Int := if r = none then 4 else 0

set_option maxHeartbeats 4000000 in
theorem mssOf_any (O : ByteArray) (w : World) (hs : O.size ≤ 100) :
    Calls Try.prog 34 #[.string O] w fun e w' => e = .returned (.tuple #[.int .i64 (((mo O O.size O.size 0 0).getD 0 : Nat) : Int), .int .i64 (me (mo O O.size O.size 0 0))]) ∧ Below w.heap.size w w' := by
  have HI : Hid (∀ a : Nat, a < O.size → ∀ w', (Instr.index 9 (.string O) (.int .i64 (a : Int))).run Try.prog w' = .ok (.int .u8 ((bt O a).toNat : Int)) w') := fun a h w' => ix_run O a a rfl h w'
  have HS : Hid (∀ a : Nat, a < O.size → ∀ w', (Instr.slice 9 (.string O) (some (.int .i64 (a : Int))) none none).run Try.prog w' = .ok (.string (O.extract a O.size)) w') := fun a h w' => by
    have := run_slice_string_l (P := Try.prog) w' 9 O Try.underlying9 .i64 (a : Int) (by omega) (by omega)
    simpa using this
  have HO : Hid (∀ a : Nat, ∀ w', Calls Try.prog 42 #[.string (O.extract a O.size)] w' fun e w'' => e = .returned (.int .i64 (ol (O.extract a O.size) : Int)) ∧ w'' = w') := fun a w' => optionLen_any _ w' (by simp; omega)
  have HT : Hid (∀ a : Nat, a + 3 < O.size → ∀ w', Calls Try.prog 41 #[.string O, .int .i64 ((a : Int) + 2)] w' fun e w'' => e = .returned (.int .i64 (tw O (a + 2) : Int)) ∧ Below w'.heap.size w' w'') := fun a h w' => twoAt_any O _ (a + 2) w' (by omega) (by omega) (by omega)
  have HM : Hid (∀ a m, a < O.size → bt O a = 0 → mo O O.size O.size a m = some m) := fun a m h k => mo_0 h (by omega) k
  generalize hR : mo O O.size O.size 0 0 = R at *
  have HR := Lib.hid hR
  clear hR
  go_enter Try.func34, Try.ntmps34
  go_wp2
  go_step3
  go_wp2
  go_step3
  go_wp2
  go_loopw [4, 5] (fun vm va w' => ∃ m a : Nat, vm = .int .i64 (m : Int) ∧ va = .int .i64 (a : Int) ∧ a ≤ O.size ∧ m ≤ 65535 ∧ Hid (mo O O.size O.size a m = R) ∧ Below w.heap.size w w') (fun _ va _ => O.size - (intOf va).toNat)
  case atStart => exact ⟨0, 0, rfl, rfl, Nat.zero_le _, Nat.zero_le _, HR, Below.refl _ _⟩
  case round =>
    obtain ⟨m, a, rfl, rfl, ha, hm, HE, hb⟩ := hrel
    by_cases c0 : a < O.size
    · have d0 : (a : Int) < (O.size : Int) := by omega
      have i1 := HI.out a c0
      by_cases k0 : bt O a = 0
      · have HRes : Hid (R = some m) := by show _ = _; rw [← HE.out]; exact HM.out a m c0 k0
        have d1 : (((bt O a).toNat : Int) == 0) = true := by rw [k0]; rfl
        clear HE HM k0
        generalize ((bt O a).toNat : Int) = K at *
        go_wp2
        try rw [Exit.noGoto_ret]
        go_ret2
        exact ⟨by rw [HRes.out]; rfl, hb⟩
      have d1 : (((bt O a).toNat : Int) == 0) = false := by
        have := u8_eq (bt O a) 0 (by omega) 0 rfl
        rw [decide_eq_false k0] at this; exact this
      by_cases k1 : bt O a = 1
      · have HN : Hid (mo O O.size O.size (a + 1) m = R) := by show _ = _; rw [← HE.out]; exact (mo_1 c0 (by omega) k1).symm
        have d2 : (((bt O a).toNat : Int) == 1) = true := by rw [k1]; rfl
        have v1 : IntKind.i64.wrap ((a : Int) + 1) = ((a + 1 : Nat) : Int) := by rw [IntKind.wrap_i64]; omega
        clear HE HM k0 k1
        generalize ((bt O a).toNat : Int) = K at *
        go_wp2
        go_roundw
        case rel => exact ⟨m, a + 1, rfl, rfl, c0, hm, HN, hb⟩
        case measure => simp [intOf]; omega
      have d2 : (((bt O a).toNat : Int) == 1) = false := by
        have := u8_eq (bt O a) 1 (by omega) 1 rfl
        rw [decide_eq_false k1] at this; exact this
      obtain ⟨o1, o2⟩ := ol_at O a c0
      have s1 := HS.out a c0
      have HO' := Lib.hid (HO.out a)
      by_cases cz : ol (O.extract a O.size) = 0
      · have HRes : Hid (R = none) := by show _ = _; rw [← HE.out]; exact mo_bad c0 (by omega) k0 k1 (o1.1 cz)
        have d3 : ((ol (O.extract a O.size) : Int) == 0) = true := by rw [cz]; rfl
        clear HE HM k0 k1 o1 o2 cz
        generalize ((bt O a).toNat : Int) = K at *
        generalize ol (O.extract a O.size) = Z at *
        generalize O.extract a O.size = X at *
        go_wp2_with fail
        refine (HO'.out _).mono ?_; rintro e w1 ⟨rfl, rfl⟩
        go_wp2
        try rw [Exit.noGoto_ret]
        go_ret2
        exact ⟨by rw [HRes.out]; rfl, hb⟩
      have d3 : ((ol (O.extract a O.size) : Int) == 0) = false := by simp; omega
      have hbad := fun x => cz (o1.2 x)
      have HG : Hid (mo O O.size O.size (a + (bt O (a + 1)).toNat) (if bt O a = 2 then tw O (a + 2) else m) = R) := by show _ = _; rw [← HE.out]; exact (mo_go c0 (by omega) k0 k1 hbad).symm
      have ez := o2 cz
      have hz1 : ¬ (bt O (a + 1)).toNat < 2 := fun x => hbad (Or.inr (Or.inl x))
      have hz2 : ¬ O.size < a + (bt O (a + 1)).toNat := fun x => hbad (Or.inr (Or.inr (Or.inl x)))
      have hz3 : bt O a = 2 → (bt O (a + 1)).toNat = 4 := fun k2 => by
        rcases Nat.decEq (bt O (a + 1)).toNat 4 with h | h
        · exact absurd (Or.inr (Or.inr (Or.inr ⟨k2, h⟩))) hbad
        · exact h
      rw [← ez] at HG hz1 hz2 hz3
      have v1 : IntKind.i64.wrap ((a : Int) + (ol (O.extract a O.size) : Int)) = ((a + ol (O.extract a O.size) : Nat) : Int) := by rw [IntKind.wrap_i64]; omega
      by_cases k2 : bt O a = 2
      · have d4 : (((bt O a).toNat : Int) == 2) = true := by rw [k2]; rfl
        have h4 := hz3 k2
        have HT' := Lib.hid (HT.out a (by omega))
        have v2 : IntKind.i64.wrap ((a : Int) + 2) = (a : Int) + 2 := by rw [IntKind.wrap_i64]; omega
        have HN : Hid (mo O O.size O.size (a + ol (O.extract a O.size)) (tw O (a + 2)) = R) := by have := HG.out; rw [if_pos k2] at this; exact this
        have ht := tw_le O (a + 2)
        clear HE HM k0 k1 k2 o1 o2 cz hbad HG ez hz3 h4
        generalize ((bt O a).toNat : Int) = K at *
        generalize ol (O.extract a O.size) = Z at *
        generalize O.extract a O.size = X at *
        generalize tw O (a + 2) = M at *
        go_wp2_with fail
        refine (HO'.out _).mono ?_; rintro e w1 ⟨rfl, rfl⟩
        go_wp2_with fail
        refine (HT'.out _).mono ?_; rintro e w2 ⟨rfl, hb2⟩
        go_wp2
        go_roundw
        case rel => exact ⟨M, a + Z, rfl, rfl, by omega, ht, HN, hb.trans (hb2.mono hb.size)⟩
        case measure => simp [intOf]; omega
      · have d4 : (((bt O a).toNat : Int) == 2) = false := by
          have := u8_eq (bt O a) 2 (by omega) 2 rfl
          rw [decide_eq_false k2] at this; exact this
        have HN : Hid (mo O O.size O.size (a + ol (O.extract a O.size)) m = R) := by have := HG.out; rw [if_neg k2] at this; exact this
        clear HE HM k0 k1 k2 o1 o2 cz hbad HG ez hz3
        generalize ((bt O a).toNat : Int) = K at *
        generalize ol (O.extract a O.size) = Z at *
        generalize O.extract a O.size = X at *
        go_wp2_with fail
        refine (HO'.out _).mono ?_; rintro e w1 ⟨rfl, rfl⟩
        go_wp2
        go_roundw
        case rel => exact ⟨m, a + Z, rfl, rfl, by omega, hm, HN, hb⟩
        case measure => simp [intOf]; omega
    · have d0 : ¬ (a : Int) < (O.size : Int) := by omega
      have HRes : Hid (R = some m) := by show _ = _; rw [← HE.out]; exact mo_end _ _ _ _ _ (by omega)
      clear HE HM
      go_wp2
      try rw [Exit.noGoto_ret]
      go_ret2
      exact ⟨by rw [HRes.out]; rfl, hb⟩
end Go.Proofs.Ytggoipdmiajckaa
