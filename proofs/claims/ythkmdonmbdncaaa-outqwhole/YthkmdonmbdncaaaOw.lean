/-
  The walk of OutqWhole.
-/
import Derived.Test.YthkmdonmbdncaaaWn
import Derived.Test.YthkmdonmbdncaaaOl
import Derived.Deep.CutBlock
import Derived.WalkMore
namespace Go.Proofs.Ythkmdonmbdncaaa
open Go.RowKit
set_option linter.unusedVariables false
set_option linter.unusedSimpArgs false

/-- All that was written, nothing sent. -/
abbrev tA (A : ByteArray) : St := ⟨A, false, 0, 0, 0⟩
/-- It is closed; what went out lies ahead of c. -/
abbrev tC (A : ByteArray) (c : Int) : St := ⟨A, true, 0, c, c⟩
theorem kept_all (A : ByteArray) (sh : Bool) (c s : Int) : kept ⟨A, sh, 0, c, s⟩ = A := by
  apply ext_list; unfold kept; dsimp only; rw [extract_list, List.take_of_length_le (by simp)]; rfl
theorem wr_tA (A x : ByteArray) (hA : A.size ≤ 2048) : ∃ n : Nat, n ≤ x.size ∧ A.size + n ≤ 2048 ∧ wN (tA A) x = n ∧ wr (tA A) x = tA (A ++ x.extract 0 n) ∧ (A ++ x.extract 0 n).size = A.size + n ∧ (x.extract 0 n).size = n := by
  have e := kept_all A false 0 0
  refine ⟨wN (tA A) x, (wN_le _ _).1, ?_, rfl, rfl, wr_size (tA A) x, wN_size _ _⟩
  have := (wN_le (tA A) x).1
  unfold wN rm
  rw [e]; simp; omega
theorem rmI_tA (A : ByteArray) (hA : A.size ≤ 2048) : rmI (tA A) = 2048 - (A.size : Int) := by
  unfold rmI rm
  rw [kept_all]; simp; omega
theorem enI_tC (A : ByteArray) (c : Int) : enI (tC A c) = (A.size : Int) + 2 := by
  unfold enI en lst; simp; omega
theorem ext_sat (A : ByteArray) (x y : Nat) (hx : A.size ≤ x) (hy : A.size ≤ y) : A.extract 0 x = A.extract 0 y := by
  apply ext_list; rw [extract_list, extract_list, List.take_of_length_le (by simpa using hx), List.take_of_length_le (by simpa using hy)]
theorem ext_join (A : ByteArray) (x y : Nat) (hx : x ≤ y) : A.extract 0 x ++ A.extract x y = A.extract 0 y := by
  apply ext_list
  rw [ByteArray.data_append, Array.toList_append, extract_list, extract_list, extract_list, List.drop_zero, List.drop_zero]
  have : List.take x A.data.toList = List.take x (List.take y A.data.toList) := by rw [List.take_take, Nat.min_eq_left hx]
  rw [this, List.take_append_drop]

theorem ak_A0 (t : St) (q : Int) : (ak t q).A = t.A := by unfold ak; split <;> rfl
theorem nx_tC (A : ByteArray) (c lim mss : Int) (h : go? (lst (tC A c)) true c lim mss) (hc : c ≤ nxC (tC A c) lim mss) : nx (tC A c) lim mss = tC A (nxC (tC A c) lim mss) := by
  unfold nx
  dsimp only
  rw [Int.max_eq_right hc]

theorem goes_tC (A : ByteArray) (c lim mss : Int) (ok : Ok (tC A c)) (h0 : c ≠ 0) (hgo : go? (lst (tC A c)) true c lim mss) :
    ∃ (F : Bool) (T : ByteArray), nxP (tC A c) lim mss = ⟨c, false, F, T⟩ ∧ nxG (tC A c) lim mss = true ∧ nx (tC A c) lim mss = tC A (c + (T.size : Int) + (if F = true then 1 else 0)) ∧ (T.size : Int) ≤ mss ∧ c + (T.size : Int) ≤ (A.size : Int) + 1 ∧
      A.extract 0 (c - 1).toNat ++ T = A.extract 0 (c - 1 + (T.size : Int)).toNat ∧ (F = true → (A.size : Int) + 1 ≤ c + (T.size : Int)) ∧ (F = false → 0 < (T.size : Int)) := by
  obtain ⟨HGo, hgg⟩ := nx_goes (tC A c) lim mss ok hgo h0
  have hc : 0 ≤ c := by have := ok.u0; have := ok.uc; exact this
  have h9 : nxC (tC A c) lim mss = c + ((nxP (tC A c) lim mss).body.size : Int) + (if (nxP (tC A c) lim mss).fin = true then 1 else 0) := HGo.c
  have hn := nx_tC A c lim mss hgo (by rw [h9]; split <;> omega)
  obtain ⟨q1, q2, q3, q4, q5, q6, q7, q8, q9⟩ := HGo
  rw [q9] at hn
  generalize nxP (tC A c) lim mss = p at *
  obtain ⟨pa0, ps, pf, T⟩ := p
  have q1 : pa0 = c := q1
  have q2 : ps = false := q2
  have q3 : (T.size : Int) ≤ mss := q3
  have q4 : c + (T.size : Int) ≤ (A.size : Int) + 1 := q4
  have q6 : T = A.extract (c - 1).toNat (c - 1 + (T.size : Int)).toNat := q6
  have q7 : pf = true → true = true ∧ c + (T.size : Int) = (A.size : Int) + 1 ∧ c + (T.size : Int) < lim := q7
  have q8 : pf = false → 0 < (T.size : Int) := q8
  have q10 : pf = true → (A.size : Int) + 1 ≤ c + (T.size : Int) := fun e => by
    obtain ⟨_, e2, _⟩ := q7 e
    rw [e2]; exact Int.le_refl _
  subst q1 q2
  refine ⟨pf, T, rfl, hgg, hn, q3, q4, ?_, q10, q8⟩
  have hj := ext_join A (pa0 - 1).toNat (pa0 - 1 + (T.size : Int)).toNat (by omega)
  rw [← q6] at hj
  exact hj

set_option maxHeartbeats 16000000 in
set_option maxRecDepth 100000 in
theorem whole_walk (o : Option Addr) (b off len cap : Nat) (X : Nat → ByteArray) (o2 : Option Addr) (b2 off2 len2 cap2 : Nat) (Z : Nat → Int) (w : World)
    (hb : 0 < len → o = some ⟨b, off, none⟩ ∧ b < w.heap.size) (hX : ∀ i, i < len → w.cell? ⟨b, off + i, none⟩ = some (.string (X i)) ∧ (X i).size ≤ maxLen) (hlen : len ≤ maxLen)
    (hb2 : 0 < len2 → o2 = some ⟨b2, off2, none⟩ ∧ b2 < w.heap.size) (hZ : ∀ i, i < len2 → w.cell? ⟨b2, off2 + i, none⟩ = some (.int .i64 (Z i)) ∧ -9223372036854775808 ≤ Z i ∧ Z i ≤ 9223372036854775807) (hlen2 : len2 ≤ maxLen) :
    Calls Try.prog 5 #[.slice o len cap, .slice o2 len2 cap2] w fun e w' => e = .returned (.bool true) ∧ Below w.heap.size w w' := by
  unfold maxLen at hlen hlen2
  have HN : Hid (∀ w', Calls Try.prog 6 #[] w' fun e w'' => e = .returned (.pointer (some ⟨w'.heap.size, 0, none⟩)) ∧ QR w'.heap.size w'.heap.size (.slice none 0 0) ⟨#[]⟩ 1 false 0 0 0 w'' ∧ Below w'.heap.size w' w'') := new_any
  have HX0 := Lib.hid hX
  have HB0 := Lib.hid hb
  have HZ0 := Lib.hid hZ
  have HB2 := Lib.hid hb2
  clear hb hX hb2 hZ
  go_enter Try.func5, Try.ntmps5
  go_wp2_with fail
  refine (HN.out _).mono ?_; rintro e w1 ⟨rfl, hT1, hb1⟩
  have L2 : Hid (Own w w1 w.heap.size (.slice none 0 0) (tA ⟨#[]⟩)) := by
    have e1 : kept (tA ⟨#[]⟩) = ⟨#[]⟩ := ext_none _ _
    have hq : OT w.heap.size (.slice none 0 0) (tA ⟨#[]⟩) w1 := by
      show QR _ _ _ (kept (tA ⟨#[]⟩)) (lst (tA ⟨#[]⟩)) _ _ _ _ _
      rw [e1]; exact hT1
    exact ⟨hq, st0_ok, hb1, Nat.le_refl _⟩
  clear hT1 hb1
  go_wp2_with fail
  go_loopw [6, 22] (fun a i W => ∃ (k : Nat) (v : Value) (A : ByteArray), k ≤ len ∧ i = .int .i64 k ∧ a = .string A ∧ A.size ≤ 2048 ∧ Own w W w.heap.size v (tA A)) (fun _ i _ => len - (intOf i).toNat)
  case atStart => exact ⟨0, _, ⟨#[]⟩, Nat.zero_le _, rfl, rfl, by decide, L2.out⟩
  case round =>
    obtain ⟨k, v, A, hk, rfl, rfl, hA, hO⟩ := hrel
    have L := Lib.hid hO
    clear hO L2
    by_cases hlt : k < len
    · obtain ⟨ho, hbb⟩ := HB0.out (by omega)
      subst ho
      obtain ⟨hx0, hxz⟩ := HX0.out k hlt
      unfold maxLen at hxz
      have hx1 : wr.cell? ⟨b, off + k, none⟩ = some (.string (X k)) := by rw [L.out.be.cell (p := ⟨b, off + k, none⟩) hbb]; exact hx0
      obtain ⟨n, n1, n2, n3, n4, n5, n6⟩ := wr_tA A (X k) hA
      have hxz' : (X k).size ≤ maxLen := by unfold maxLen; exact hxz
      have HW : Hid (∀ W, Own w W w.heap.size v (tA A) → Calls Try.prog 8 #[.pointer (some ⟨w.heap.size, 0, none⟩), .string (X k)] W fun e W' => e = .returned (.int .i64 (n : Int)) ∧ (∃ v', Own w W' w.heap.size v' (tA (A ++ (X k).extract 0 n)))) := fun W h => (q_write (X k) h.own h.ok (by show A.size ≤ _; omega) hxz').mono fun e W' h' => ⟨by rw [h'.1, n3], by obtain ⟨v', hv⟩ := h'.2.1; exact ⟨v', by rw [← n4]; exact h.put hv (h.ok.wr (X k)) h'.2.2⟩⟩
      have HR : Hid (∀ W v', Own w W w.heap.size v' (tA (A ++ (X k).extract 0 n)) → Calls Try.prog 23 #[.pointer (some ⟨w.heap.size, 0, none⟩)] W fun e W' => e = .returned (.int .i64 (2048 - (A.size : Int) - (n : Int))) ∧ W' = W) := fun W v' h => (q_room h.own h.ok).mono fun e W' h' => ⟨by rw [h'.1, rmI_tA _ (by omega), n5]; exact ret_int (by omega), h'.2⟩
      have s1 : ∀ w', (Instr.slice 9 (.string (X k)) none (some (.int .i64 (n : Int))) none).run Try.prog w' = .ok (.string ((X k).extract 0 n)) w' := fun w' => by
        have := run_slice_string_h (P := Try.prog) w' 9 (X k) Try.underlying9 .i64 n (by omega) (by omega)
        simpa using this
      have t1 : ∀ w', (Op.stringOp .add A ((X k).extract 0 n)).run Try.prog w' = .ok (.string (A ++ (X k).extract 0 n)) w' := fun w' => run_string_add_sum w' _ _ (by omega)
      have hAn : (A ++ (X k).extract 0 n).size ≤ 2048 := by omega
      clear n3 n4 n5 n6 hxz' hx0 hbb
      generalize A ++ (X k).extract 0 n = A' at *
      generalize (X k).extract 0 n = T at *
      generalize X k = x at *
      go_wp2_with fail
      refine (HW.out _ L.out).mono ?_; rintro e w2 ⟨rfl, v2, hL2⟩
      have L3 := Lib.hid hL2
      clear hL2 L hx1
      go_wp2_with fail
      refine (HR.out _ _ L3.out).mono ?_; rintro e w3 ⟨rfl, rfl⟩
      go_wp2_with fail
      go_roundw
      case rel => exact ⟨k + 1, _, A', by omega, by go_num, rfl, hAn, L3.out⟩
      case measure => simp [intOf]; omega
    · have hlt' : ¬ ((k : Int) < (len : Int)) := by omega
      clear hlt HX0 HB0
      have HCl : Hid (Calls Try.prog 10 #[.pointer (some ⟨w.heap.size, 0, none⟩)] wr fun e W' => e = .returned (.tuple #[]) ∧ Own w W' w.heap.size v (tC A 0)) := (q_close L.out.own).mono fun e W' h' => ⟨h'.1, L.out.put1 h'.2.1 L.out.ok.cl h'.2.2⟩
      clear L
      go_wp2_with fail
      refine HCl.out.mono ?_; rintro e w2 ⟨rfl, hL2⟩
      have L2 := Lib.hid hL2
      clear hL2 HCl
      go_wp2_with fail
      go_loopw [10, 11, 12, 13] (fun g sy fi i W => ∃ (m : Nat) (c : Int), 0 ≤ c ∧ c ≤ (A.size : Int) + 2 ∧ (m : Int) ≤ c ∧ i = .int .i64 m ∧ g = .string (A.extract 0 (c - 1).toNat) ∧ sy = .int .i64 (if c = 0 then 0 else 1) ∧ fi = .int .i64 (if c = (A.size : Int) + 2 then 1 else 0) ∧ Own w W w.heap.size v (tC A c)) (fun _ _ _ i _ => A.size + 3 - (intOf i).toNat)
      case atStart => exact ⟨0, 0, by omega, by omega, by omega, rfl, by rw [show ((0 : Int) - 1).toNat = 0 from rfl, ext_none], by rw [if_pos rfl], by rw [if_neg (by omega)], L2.out⟩
      case round =>
        obtain ⟨m, c, hc0, hc1, hm, rfl, rfl, rfl, rfl, hO⟩ := hrel
        have L := Lib.hid hO
        clear hO L2
        have hok := Lib.hid L.out.ok
        have hA2 : (tC A c).A.size ≤ 4503599627370496 := by show A.size ≤ _; omega
        by_cases hce : c = (A.size : Int) + 2
        · by_cases hi : (m : Int) < (len2 : Int)
          · obtain ⟨ho2, hbb2⟩ := HB2.out (by omega)
            subst ho2
            obtain ⟨hz0, hz1, hz2⟩ := HZ0.out m (by omega)
            have hzc : wr.cell? ⟨b2, off2 + m, none⟩ = some (.int .i64 (Z m)) := by rw [L.out.be.cell (p := ⟨b2, off2 + m, none⟩) hbb2]; exact hz0
            have HRe : Hid (∀ W, Calls Try.prog 25 #[.int .i64 (Z m), .int .i64 300] W fun e W' => e = .returned (.int .i64 (Z m % 300)) ∧ W' = W) := fun W => rest_any (Z m) 300 W (by omega) (by omega) hz1 hz2
            have r0 := Int.emod_nonneg (Z m) (show (300 : Int) ≠ 0 by omega)
            have r1 := Int.emod_lt_of_pos (Z m) (show (0 : Int) < 300 by omega)
            clear hz0 hbb2
            generalize Z m % 300 = r at *
            generalize Z m = zz at *
            have HW0 : Hid (∀ W, Own w W w.heap.size v (tC A c) → Calls Try.prog 11 #[.pointer (some ⟨w.heap.size, 0, none⟩), .int .i64 1099511627776, .int .i64 (1 + r)] W fun e W' => e = .returned (.tuple #[pvv (nxP (tC A c) 1099511627776 (1 + r)), .bool (nxG (tC A c) 1099511627776 (1 + r))]) ∧ Own w W' w.heap.size v (nx (tC A c) 1099511627776 (1 + r))) := fun W h => (q_next 1099511627776 (1 + r) h.own h.ok hA2 (by omega)).mono fun e W' h' => ⟨h'.1, h.put1 h'.2.1 (h.ok.nx _ _) h'.2.2⟩
            have hng : ¬ go? (lst (tC A c)) true c 1099511627776 (1 + r) := by have := enI_tC A c; unfold enI at this; dsimp only at this; intro hgo; have := hgo.1; omega
            obtain ⟨y1, y2, y3⟩ := nx_none (tC A c) 1099511627776 (1 + r) hok.out hng
            have HW := Lib.hid HW0.out
            rw [y1, y2, y3] at HW
            clear HW0 hng y1 y2 y3
            subst hce
            have hG : A.extract 0 ((A.size : Int) + 2 - 1).toNat = A := by apply ext_list; rw [extract_list, List.take_of_length_le (by simp; omega)]; rfl
            rw [hG, if_neg (by omega), if_pos rfl]
            clear hG
            have HE1 : Hid (∀ W, Own w W w.heap.size v (tC A ((A.size : Int) + 2)) → Calls Try.prog 21 #[.pointer (some ⟨w.heap.size, 0, none⟩)] W fun e W' => e = .returned (.int .i64 ((A.size : Int) + 2)) ∧ W' = W) := fun W h => (q_end h.own hA2).mono fun e W' h' => ⟨by rw [h'.1, enI_tC], h'.2⟩
            have hak : akN (tC A ((A.size : Int) + 2)) ((A.size : Int) + 2) = (A.size : Int) + 2 ∧ (ak (tC A ((A.size : Int) + 2)) ((A.size : Int) + 2)).u = (A.size : Int) + 2 ∧ enI (ak (tC A ((A.size : Int) + 2)) ((A.size : Int) + 2)) = (A.size : Int) + 2 := by
              have e1 : ¬ (((A.size : Int) + 2) ≤ 0 ∨ ((A.size : Int) + 2) < ((A.size : Int) + 2)) := by omega
              unfold akN ak
              dsimp only
              rw [if_neg e1, if_neg e1]
              refine ⟨by omega, rfl, ?_⟩
              unfold enI en lst
              dsimp only
              simp; omega
            have HA1 : Hid (∀ W, Own w W w.heap.size v (tC A ((A.size : Int) + 2)) → Calls Try.prog 16 #[.pointer (some ⟨w.heap.size, 0, none⟩), .int .i64 ((A.size : Int) + 2)] W fun e W' => e = .returned (.int .i64 ((A.size : Int) + 2)) ∧ (∃ v', Own w W' w.heap.size v' (ak (tC A ((A.size : Int) + 2)) ((A.size : Int) + 2)))) := fun W h => (q_ack _ h.own h.ok hA2 (by omega)).mono fun e W' h' => ⟨by rw [h'.1, hak.1], by obtain ⟨v', hv⟩ := h'.2.1; exact ⟨v', h.put hv (h.ok.ak _) h'.2.2⟩⟩
            have HU2 : Hid (∀ W v', Own w W w.heap.size v' (ak (tC A ((A.size : Int) + 2)) ((A.size : Int) + 2)) → Calls Try.prog 18 #[.pointer (some ⟨w.heap.size, 0, none⟩)] W fun e W' => e = .returned (.int .i64 ((A.size : Int) + 2)) ∧ W' = W) := fun W v' h => (q_una h.own).mono fun e W' h' => ⟨by rw [h'.1, hak.2.1], h'.2⟩
            have HE2 : Hid (∀ W v', Own w W w.heap.size v' (ak (tC A ((A.size : Int) + 2)) ((A.size : Int) + 2)) → Calls Try.prog 21 #[.pointer (some ⟨w.heap.size, 0, none⟩)] W fun e W' => e = .returned (.int .i64 ((A.size : Int) + 2)) ∧ W' = W) := fun W v' h => (q_end h.own (by rw [ak_A0]; exact hA2)).mono fun e W' h' => ⟨by rw [h'.1, hak.2.2], h'.2⟩
            clear hak hok hA2
            generalize ak (tC A ((A.size : Int) + 2)) ((A.size : Int) + 2) = t2 at *
            generalize tC A ((A.size : Int) + 2) = t1 at *
            go_wp2_with fail
            refine (HRe.out _).mono ?_; rintro e w3 ⟨rfl, rfl⟩
            go_wp2_with fail
            refine (HW.out _ L.out).mono ?_; rintro e w4 ⟨rfl, hL4⟩
            have L5 : Hid (Own w (w4.alloc (.cells (pcs pc0) 46)) w.heap.size v t1) := hL4.alloc _
            clear hL4 HW L
            go_upto_region 21 with (refine wpList_store_last rfl 46 _ _ rfl w4 _ (pcs pc0) rfl rfl rfl info46 rfl (pcs_one _) ?_)
            generalize w4.heap.size = pa at *
            generalize w4.alloc (.cells (pcs pc0) 46) = w5 at *
            go_wp2_with fail
            refine (HE1.out _ L5.out).mono ?_; rintro e w6 ⟨rfl, rfl⟩
            go_wp2_with fail
            refine (HA1.out _ L5.out).mono ?_; rintro e w7 ⟨rfl, v7, hL7⟩
            have L7 := Lib.hid hL7
            clear hL7 L5
            go_wp2_with fail
            refine (HU2.out _ _ L7.out).mono ?_; rintro e w8 ⟨rfl, rfl⟩
            go_wp2_with fail
            refine (HE2.out _ _ L7.out).mono ?_; rintro e w8 ⟨rfl, rfl⟩
            go_wp2_with fail
            go_ret
            exact ⟨ret_bool (by first | rfl | (simp; done)), L7.out.be⟩
          · have HW0 : Hid (∀ W, Own w W w.heap.size v (tC A c) → Calls Try.prog 11 #[.pointer (some ⟨w.heap.size, 0, none⟩), .int .i64 1099511627776, .int .i64 1048576] W fun e W' => e = .returned (.tuple #[pvv (nxP (tC A c) 1099511627776 1048576), .bool (nxG (tC A c) 1099511627776 1048576)]) ∧ Own w W' w.heap.size v (nx (tC A c) 1099511627776 1048576)) := fun W h => (q_next 1099511627776 1048576 h.own h.ok hA2 (by omega)).mono fun e W' h' => ⟨h'.1, h.put1 h'.2.1 (h.ok.nx _ _) h'.2.2⟩
            have hng : ¬ go? (lst (tC A c)) true c 1099511627776 1048576 := by have := enI_tC A c; unfold enI at this; dsimp only at this; intro hgo; have := hgo.1; omega
            obtain ⟨y1, y2, y3⟩ := nx_none (tC A c) 1099511627776 1048576 hok.out hng
            have HW := Lib.hid HW0.out
            rw [y1, y2, y3] at HW
            clear HW0 hng y1 y2 y3
            subst hce
            have hG : A.extract 0 ((A.size : Int) + 2 - 1).toNat = A := by apply ext_list; rw [extract_list, List.take_of_length_le (by simp; omega)]; rfl
            rw [hG, if_neg (by omega), if_pos rfl]
            clear hG
            have HE1 : Hid (∀ W, Own w W w.heap.size v (tC A ((A.size : Int) + 2)) → Calls Try.prog 21 #[.pointer (some ⟨w.heap.size, 0, none⟩)] W fun e W' => e = .returned (.int .i64 ((A.size : Int) + 2)) ∧ W' = W) := fun W h => (q_end h.own hA2).mono fun e W' h' => ⟨by rw [h'.1, enI_tC], h'.2⟩
            have hak : akN (tC A ((A.size : Int) + 2)) ((A.size : Int) + 2) = (A.size : Int) + 2 ∧ (ak (tC A ((A.size : Int) + 2)) ((A.size : Int) + 2)).u = (A.size : Int) + 2 ∧ enI (ak (tC A ((A.size : Int) + 2)) ((A.size : Int) + 2)) = (A.size : Int) + 2 := by
              have e1 : ¬ (((A.size : Int) + 2) ≤ 0 ∨ ((A.size : Int) + 2) < ((A.size : Int) + 2)) := by omega
              unfold akN ak
              dsimp only
              rw [if_neg e1, if_neg e1]
              refine ⟨by omega, rfl, ?_⟩
              unfold enI en lst
              dsimp only
              simp; omega
            have HA1 : Hid (∀ W, Own w W w.heap.size v (tC A ((A.size : Int) + 2)) → Calls Try.prog 16 #[.pointer (some ⟨w.heap.size, 0, none⟩), .int .i64 ((A.size : Int) + 2)] W fun e W' => e = .returned (.int .i64 ((A.size : Int) + 2)) ∧ (∃ v', Own w W' w.heap.size v' (ak (tC A ((A.size : Int) + 2)) ((A.size : Int) + 2)))) := fun W h => (q_ack _ h.own h.ok hA2 (by omega)).mono fun e W' h' => ⟨by rw [h'.1, hak.1], by obtain ⟨v', hv⟩ := h'.2.1; exact ⟨v', h.put hv (h.ok.ak _) h'.2.2⟩⟩
            have HU2 : Hid (∀ W v', Own w W w.heap.size v' (ak (tC A ((A.size : Int) + 2)) ((A.size : Int) + 2)) → Calls Try.prog 18 #[.pointer (some ⟨w.heap.size, 0, none⟩)] W fun e W' => e = .returned (.int .i64 ((A.size : Int) + 2)) ∧ W' = W) := fun W v' h => (q_una h.own).mono fun e W' h' => ⟨by rw [h'.1, hak.2.1], h'.2⟩
            have HE2 : Hid (∀ W v', Own w W w.heap.size v' (ak (tC A ((A.size : Int) + 2)) ((A.size : Int) + 2)) → Calls Try.prog 21 #[.pointer (some ⟨w.heap.size, 0, none⟩)] W fun e W' => e = .returned (.int .i64 ((A.size : Int) + 2)) ∧ W' = W) := fun W v' h => (q_end h.own (by rw [ak_A0]; exact hA2)).mono fun e W' h' => ⟨by rw [h'.1, hak.2.2], h'.2⟩
            clear hak hok hA2
            generalize ak (tC A ((A.size : Int) + 2)) ((A.size : Int) + 2) = t2 at *
            generalize tC A ((A.size : Int) + 2) = t1 at *
            go_wp2_with fail
            refine (HW.out _ L.out).mono ?_; rintro e w4 ⟨rfl, hL4⟩
            have L5 : Hid (Own w (w4.alloc (.cells (pcs pc0) 46)) w.heap.size v t1) := hL4.alloc _
            clear hL4 HW L
            go_upto_region 21 with (refine wpList_store_last rfl 46 _ _ rfl w4 _ (pcs pc0) rfl rfl rfl info46 rfl (pcs_one _) ?_)
            generalize w4.heap.size = pa at *
            generalize w4.alloc (.cells (pcs pc0) 46) = w5 at *
            go_wp2_with fail
            refine (HE1.out _ L5.out).mono ?_; rintro e w6 ⟨rfl, rfl⟩
            go_wp2_with fail
            refine (HA1.out _ L5.out).mono ?_; rintro e w7 ⟨rfl, v7, hL7⟩
            have L7 := Lib.hid hL7
            clear hL7 L5
            go_wp2_with fail
            refine (HU2.out _ _ L7.out).mono ?_; rintro e w8 ⟨rfl, rfl⟩
            go_wp2_with fail
            refine (HE2.out _ _ L7.out).mono ?_; rintro e w8 ⟨rfl, rfl⟩
            go_wp2_with fail
            go_ret
            exact ⟨ret_bool (by first | rfl | (simp; done)), L7.out.be⟩
        rw [if_neg hce]
        by_cases h0 : c = 0
        · by_cases hi : (m : Int) < (len2 : Int)
          · obtain ⟨ho2, hbb2⟩ := HB2.out (by omega)
            subst ho2
            obtain ⟨hz0, hz1, hz2⟩ := HZ0.out m (by omega)
            have hzc : wr.cell? ⟨b2, off2 + m, none⟩ = some (.int .i64 (Z m)) := by rw [L.out.be.cell (p := ⟨b2, off2 + m, none⟩) hbb2]; exact hz0
            have HRe : Hid (∀ W, Calls Try.prog 25 #[.int .i64 (Z m), .int .i64 300] W fun e W' => e = .returned (.int .i64 (Z m % 300)) ∧ W' = W) := fun W => rest_any (Z m) 300 W (by omega) (by omega) hz1 hz2
            have r0 := Int.emod_nonneg (Z m) (show (300 : Int) ≠ 0 by omega)
            have r1 := Int.emod_lt_of_pos (Z m) (show (0 : Int) < 300 by omega)
            clear hz0 hbb2
            generalize Z m % 300 = r at *
            generalize Z m = zz at *
            have HW0 : Hid (∀ W, Own w W w.heap.size v (tC A c) → Calls Try.prog 11 #[.pointer (some ⟨w.heap.size, 0, none⟩), .int .i64 1099511627776, .int .i64 (1 + r)] W fun e W' => e = .returned (.tuple #[pvv (nxP (tC A c) 1099511627776 (1 + r)), .bool (nxG (tC A c) 1099511627776 (1 + r))]) ∧ Own w W' w.heap.size v (nx (tC A c) 1099511627776 (1 + r))) := fun W h => (q_next 1099511627776 (1 + r) h.own h.ok hA2 (by omega)).mono fun e W' h' => ⟨h'.1, h.put1 h'.2.1 (h.ok.nx _ _) h'.2.2⟩
            have hgo : go? (lst (tC A c)) true c 1099511627776 (1 + r) := by have := enI_tC A c; unfold enI at this; dsimp only at this; exact ⟨by omega, by omega⟩
            obtain ⟨y1, y2, y3⟩ := nx_syn (tC A c) 1099511627776 (1 + r) hgo h0
            have y4 : nx (tC A c) 1099511627776 (1 + r) = tC A 1 := by unfold nx; rw [y3]; dsimp only; rw [h0]; rfl
            have HW := Lib.hid HW0.out
            rw [y1, y2, y4] at HW
            clear HW0 hgo y1 y2 y3 y4 hok hA2 hce
            subst h0
            rw [show ((0 : Int) - 1).toNat = 0 from rfl, ext_none, if_pos rfl]
            have t1 : ∀ w', (Op.stringOp .add (⟨#[]⟩ : ByteArray) (⟨#[]⟩ : ByteArray)).run Try.prog w' = .ok (.string ⟨#[]⟩) w' := fun w' => by have := run_string_add_sum (P := Try.prog) w' (⟨#[]⟩ : ByteArray) (⟨#[]⟩ : ByteArray) (by decide); rw [this]; rfl
            go_wp2_with fail
            refine (HRe.out _).mono ?_; rintro e w3 ⟨rfl, rfl⟩
            go_wp2_with fail
            refine (HW.out _ L.out).mono ?_; rintro e w4 ⟨rfl, hL4⟩
            have L5 : Hid (Own w (w4.alloc (.cells (pcs ⟨0, true, false, ⟨#[]⟩⟩) 46)) w.heap.size v (tC A 1)) := hL4.alloc _
            have P5 : Hid (PB w4.heap.size ⟨0, true, false, ⟨#[]⟩⟩ (w4.alloc (.cells (pcs ⟨0, true, false, ⟨#[]⟩⟩) 46))) := PB.new _ _
            clear hL4 HW L
            go_upto_region 21 with (refine wpList_store_last rfl 46 _ _ rfl w4 _ (pcs ⟨0, true, false, ⟨#[]⟩⟩) rfl rfl rfl info46 rfl (pcs_one _) ?_)
            generalize w4.heap.size = pa at *
            generalize w4.alloc (.cells (pcs ⟨0, true, false, ⟨#[]⟩⟩) 46) = w5 at *
            have g0 := P5.out.c0
            have g1 := P5.out.c1
            have g2 := P5.out.c2
            have g3 := P5.out.c3
            go_wp2_with fail
            go_roundw
            case rel => exact ⟨m + 1, 1, by omega, by omega, by omega, by go_num, by rw [show ((1 : Int) - 1).toNat = 0 from rfl, ext_none], by rw [if_neg (by omega)], by rw [if_neg (by omega)], L5.out⟩
            case measure => simp [intOf]; omega
          · have HW0 : Hid (∀ W, Own w W w.heap.size v (tC A c) → Calls Try.prog 11 #[.pointer (some ⟨w.heap.size, 0, none⟩), .int .i64 1099511627776, .int .i64 1048576] W fun e W' => e = .returned (.tuple #[pvv (nxP (tC A c) 1099511627776 1048576), .bool (nxG (tC A c) 1099511627776 1048576)]) ∧ Own w W' w.heap.size v (nx (tC A c) 1099511627776 1048576)) := fun W h => (q_next 1099511627776 1048576 h.own h.ok hA2 (by omega)).mono fun e W' h' => ⟨h'.1, h.put1 h'.2.1 (h.ok.nx _ _) h'.2.2⟩
            have hgo : go? (lst (tC A c)) true c 1099511627776 1048576 := by have := enI_tC A c; unfold enI at this; dsimp only at this; exact ⟨by omega, by omega⟩
            obtain ⟨y1, y2, y3⟩ := nx_syn (tC A c) 1099511627776 1048576 hgo h0
            have y4 : nx (tC A c) 1099511627776 1048576 = tC A 1 := by unfold nx; rw [y3]; dsimp only; rw [h0]; rfl
            have HW := Lib.hid HW0.out
            rw [y1, y2, y4] at HW
            clear HW0 hgo y1 y2 y3 y4 hok hA2 hce
            subst h0
            rw [show ((0 : Int) - 1).toNat = 0 from rfl, ext_none, if_pos rfl]
            have t1 : ∀ w', (Op.stringOp .add (⟨#[]⟩ : ByteArray) (⟨#[]⟩ : ByteArray)).run Try.prog w' = .ok (.string ⟨#[]⟩) w' := fun w' => by have := run_string_add_sum (P := Try.prog) w' (⟨#[]⟩ : ByteArray) (⟨#[]⟩ : ByteArray) (by decide); rw [this]; rfl
            go_wp2_with fail
            refine (HW.out _ L.out).mono ?_; rintro e w4 ⟨rfl, hL4⟩
            have L5 : Hid (Own w (w4.alloc (.cells (pcs ⟨0, true, false, ⟨#[]⟩⟩) 46)) w.heap.size v (tC A 1)) := hL4.alloc _
            have P5 : Hid (PB w4.heap.size ⟨0, true, false, ⟨#[]⟩⟩ (w4.alloc (.cells (pcs ⟨0, true, false, ⟨#[]⟩⟩) 46))) := PB.new _ _
            clear hL4 HW L
            go_upto_region 21 with (refine wpList_store_last rfl 46 _ _ rfl w4 _ (pcs ⟨0, true, false, ⟨#[]⟩⟩) rfl rfl rfl info46 rfl (pcs_one _) ?_)
            generalize w4.heap.size = pa at *
            generalize w4.alloc (.cells (pcs ⟨0, true, false, ⟨#[]⟩⟩) 46) = w5 at *
            have g0 := P5.out.c0
            have g1 := P5.out.c1
            have g2 := P5.out.c2
            have g3 := P5.out.c3
            go_wp2_with fail
            go_roundw
            case rel => exact ⟨m + 1, 1, by omega, by omega, by omega, by go_num, by rw [show ((1 : Int) - 1).toNat = 0 from rfl, ext_none], by rw [if_neg (by omega)], by rw [if_neg (by omega)], L5.out⟩
            case measure => simp [intOf]; omega
        rw [if_neg h0]
        by_cases hi : (m : Int) < (len2 : Int)
        · obtain ⟨ho2, hbb2⟩ := HB2.out (by omega)
          subst ho2
          obtain ⟨hz0, hz1, hz2⟩ := HZ0.out m (by omega)
          have hzc : wr.cell? ⟨b2, off2 + m, none⟩ = some (.int .i64 (Z m)) := by rw [L.out.be.cell (p := ⟨b2, off2 + m, none⟩) hbb2]; exact hz0
          have HRe : Hid (∀ W, Calls Try.prog 25 #[.int .i64 (Z m), .int .i64 300] W fun e W' => e = .returned (.int .i64 (Z m % 300)) ∧ W' = W) := fun W => rest_any (Z m) 300 W (by omega) (by omega) hz1 hz2
          have r0 := Int.emod_nonneg (Z m) (show (300 : Int) ≠ 0 by omega)
          have r1 := Int.emod_lt_of_pos (Z m) (show (0 : Int) < 300 by omega)
          clear hz0 hbb2
          generalize Z m % 300 = r at *
          generalize Z m = zz at *
          have HW0 : Hid (∀ W, Own w W w.heap.size v (tC A c) → Calls Try.prog 11 #[.pointer (some ⟨w.heap.size, 0, none⟩), .int .i64 1099511627776, .int .i64 (1 + r)] W fun e W' => e = .returned (.tuple #[pvv (nxP (tC A c) 1099511627776 (1 + r)), .bool (nxG (tC A c) 1099511627776 (1 + r))]) ∧ Own w W' w.heap.size v (nx (tC A c) 1099511627776 (1 + r))) := fun W h => (q_next 1099511627776 (1 + r) h.own h.ok hA2 (by omega)).mono fun e W' h' => ⟨h'.1, h.put1 h'.2.1 (h.ok.nx _ _) h'.2.2⟩
          have hgo : go? (lst (tC A c)) true c 1099511627776 (1 + r) := by have := enI_tC A c; unfold enI at this; dsimp only at this; exact ⟨by omega, by omega⟩
          obtain ⟨pf, T, y1, y2, y3, q3, q4, hGT, q7, q8⟩ := goes_tC A c 1099511627776 (1 + r) hok.out h0 hgo
          have HW := Lib.hid HW0.out
          rw [y1, y2, y3] at HW
          clear y1 y2 y3
          have hcz : (A.extract 0 (c - 1).toNat).size ≤ 2048 := by simp; omega
          have hTz : (T.size : Int) ≤ 2050 := by omega
          have t1 : ∀ w', (Op.stringOp .add (A.extract 0 (c - 1).toNat) T).run Try.prog w' = .ok (.string (A.extract 0 (c - 1 + (T.size : Int)).toNat)) w' := fun w' => by rw [← hGT]; exact run_string_add_sum w' _ _ (by omega)
          clear HW0 hgo hGT hok hA2
          cases pf with
          | true =>
            replace HW : Hid (∀ W, Own w W w.heap.size v (tC A c) → Calls Try.prog 11 #[.pointer (some ⟨w.heap.size, 0, none⟩), .int .i64 1099511627776, .int .i64 (1 + r)] W fun e W' => e = .returned (.tuple #[pvv ⟨c, false, true, T⟩, .bool true]) ∧ Own w W' w.heap.size v (tC A (c + (T.size : Int) + 1))) := by have h := HW.out; rw [if_pos rfl] at h; exact h
            have r5 := q7 rfl
            have hGe : A.extract 0 (c - 1 + (T.size : Int)).toNat = A.extract 0 (c + (T.size : Int) + 1 - 1).toNat := ext_sat _ _ _ (by omega) (by omega)
            have HGe := Lib.hid hGe
            clear hGe q7 q8
            generalize A.extract 0 (c - 1 + (T.size : Int)).toNat = R at *
            generalize A.extract 0 (c - 1).toNat = G at *
            go_wp2_with fail
            refine (HRe.out _).mono ?_; rintro e w3 ⟨rfl, rfl⟩
            go_wp2_with fail
            refine (HW.out _ L.out).mono ?_; rintro e w4 ⟨rfl, hL4⟩
            have L5 : Hid (Own w (w4.alloc (.cells (pcs ⟨c, false, true, T⟩) 46)) w.heap.size v (tC A (c + (T.size : Int) + 1))) := hL4.alloc _
            have P5 : Hid (PB w4.heap.size ⟨c, false, true, T⟩ (w4.alloc (.cells (pcs ⟨c, false, true, T⟩) 46))) := PB.new _ _
            clear hL4 HW L
            go_upto_region 21 with (refine wpList_store_last rfl 46 _ _ rfl w4 _ (pcs ⟨c, false, true, T⟩) rfl rfl rfl info46 rfl (pcs_one _) ?_)
            generalize w4.heap.size = pa at *
            generalize w4.alloc (.cells (pcs ⟨c, false, true, T⟩) 46) = w5 at *
            have g0 := P5.out.c0
            have g1 := P5.out.c1
            have g2 := P5.out.c2
            have g3 := P5.out.c3
            go_wp2_with fail
            go_roundw
            case rel => exact ⟨m + 1, (c + (T.size : Int) + 1), by omega, by omega, by omega, by go_num, by rw [HGe.out], by rw [if_neg (by omega)], by rw [if_pos (by omega)], L5.out⟩
            case measure => simp [intOf]; omega
          | false =>
            replace HW : Hid (∀ W, Own w W w.heap.size v (tC A c) → Calls Try.prog 11 #[.pointer (some ⟨w.heap.size, 0, none⟩), .int .i64 1099511627776, .int .i64 (1 + r)] W fun e W' => e = .returned (.tuple #[pvv ⟨c, false, false, T⟩, .bool true]) ∧ Own w W' w.heap.size v (tC A (c + (T.size : Int)))) := by have h := HW.out; rw [if_neg (by decide), Int.add_zero] at h; exact h
            have r6 := q8 rfl
            have hGe : A.extract 0 (c - 1 + (T.size : Int)).toNat = A.extract 0 (c + (T.size : Int) - 1).toNat := by congr 1; omega
            have HGe := Lib.hid hGe
            clear hGe q7 q8
            generalize A.extract 0 (c - 1 + (T.size : Int)).toNat = R at *
            generalize A.extract 0 (c - 1).toNat = G at *
            go_wp2_with fail
            refine (HRe.out _).mono ?_; rintro e w3 ⟨rfl, rfl⟩
            go_wp2_with fail
            refine (HW.out _ L.out).mono ?_; rintro e w4 ⟨rfl, hL4⟩
            have L5 : Hid (Own w (w4.alloc (.cells (pcs ⟨c, false, false, T⟩) 46)) w.heap.size v (tC A (c + (T.size : Int)))) := hL4.alloc _
            have P5 : Hid (PB w4.heap.size ⟨c, false, false, T⟩ (w4.alloc (.cells (pcs ⟨c, false, false, T⟩) 46))) := PB.new _ _
            clear hL4 HW L
            go_upto_region 21 with (refine wpList_store_last rfl 46 _ _ rfl w4 _ (pcs ⟨c, false, false, T⟩) rfl rfl rfl info46 rfl (pcs_one _) ?_)
            generalize w4.heap.size = pa at *
            generalize w4.alloc (.cells (pcs ⟨c, false, false, T⟩) 46) = w5 at *
            have g0 := P5.out.c0
            have g1 := P5.out.c1
            have g2 := P5.out.c2
            have g3 := P5.out.c3
            go_wp2_with fail
            go_roundw
            case rel => exact ⟨m + 1, (c + (T.size : Int)), by omega, by omega, by omega, by go_num, by rw [HGe.out], by rw [if_neg (by omega)], by rw [if_neg (by omega)], L5.out⟩
            case measure => simp [intOf]; omega
        · have HW0 : Hid (∀ W, Own w W w.heap.size v (tC A c) → Calls Try.prog 11 #[.pointer (some ⟨w.heap.size, 0, none⟩), .int .i64 1099511627776, .int .i64 1048576] W fun e W' => e = .returned (.tuple #[pvv (nxP (tC A c) 1099511627776 1048576), .bool (nxG (tC A c) 1099511627776 1048576)]) ∧ Own w W' w.heap.size v (nx (tC A c) 1099511627776 1048576)) := fun W h => (q_next 1099511627776 1048576 h.own h.ok hA2 (by omega)).mono fun e W' h' => ⟨h'.1, h.put1 h'.2.1 (h.ok.nx _ _) h'.2.2⟩
          have hgo : go? (lst (tC A c)) true c 1099511627776 1048576 := by have := enI_tC A c; unfold enI at this; dsimp only at this; exact ⟨by omega, by omega⟩
          obtain ⟨pf, T, y1, y2, y3, q3, q4, hGT, q7, q8⟩ := goes_tC A c 1099511627776 1048576 hok.out h0 hgo
          have HW := Lib.hid HW0.out
          rw [y1, y2, y3] at HW
          clear y1 y2 y3
          have hcz : (A.extract 0 (c - 1).toNat).size ≤ 2048 := by simp; omega
          have hTz : (T.size : Int) ≤ 2050 := by omega
          have t1 : ∀ w', (Op.stringOp .add (A.extract 0 (c - 1).toNat) T).run Try.prog w' = .ok (.string (A.extract 0 (c - 1 + (T.size : Int)).toNat)) w' := fun w' => by rw [← hGT]; exact run_string_add_sum w' _ _ (by omega)
          clear HW0 hgo hGT hok hA2
          cases pf with
          | true =>
            replace HW : Hid (∀ W, Own w W w.heap.size v (tC A c) → Calls Try.prog 11 #[.pointer (some ⟨w.heap.size, 0, none⟩), .int .i64 1099511627776, .int .i64 1048576] W fun e W' => e = .returned (.tuple #[pvv ⟨c, false, true, T⟩, .bool true]) ∧ Own w W' w.heap.size v (tC A (c + (T.size : Int) + 1))) := by have h := HW.out; rw [if_pos rfl] at h; exact h
            have r5 := q7 rfl
            have hGe : A.extract 0 (c - 1 + (T.size : Int)).toNat = A.extract 0 (c + (T.size : Int) + 1 - 1).toNat := ext_sat _ _ _ (by omega) (by omega)
            have HGe := Lib.hid hGe
            clear hGe q7 q8
            generalize A.extract 0 (c - 1 + (T.size : Int)).toNat = R at *
            generalize A.extract 0 (c - 1).toNat = G at *
            go_wp2_with fail
            refine (HW.out _ L.out).mono ?_; rintro e w4 ⟨rfl, hL4⟩
            have L5 : Hid (Own w (w4.alloc (.cells (pcs ⟨c, false, true, T⟩) 46)) w.heap.size v (tC A (c + (T.size : Int) + 1))) := hL4.alloc _
            have P5 : Hid (PB w4.heap.size ⟨c, false, true, T⟩ (w4.alloc (.cells (pcs ⟨c, false, true, T⟩) 46))) := PB.new _ _
            clear hL4 HW L
            go_upto_region 21 with (refine wpList_store_last rfl 46 _ _ rfl w4 _ (pcs ⟨c, false, true, T⟩) rfl rfl rfl info46 rfl (pcs_one _) ?_)
            generalize w4.heap.size = pa at *
            generalize w4.alloc (.cells (pcs ⟨c, false, true, T⟩) 46) = w5 at *
            have g0 := P5.out.c0
            have g1 := P5.out.c1
            have g2 := P5.out.c2
            have g3 := P5.out.c3
            go_wp2_with fail
            go_roundw
            case rel => exact ⟨m + 1, (c + (T.size : Int) + 1), by omega, by omega, by omega, by go_num, by rw [HGe.out], by rw [if_neg (by omega)], by rw [if_pos (by omega)], L5.out⟩
            case measure => simp [intOf]; omega
          | false =>
            replace HW : Hid (∀ W, Own w W w.heap.size v (tC A c) → Calls Try.prog 11 #[.pointer (some ⟨w.heap.size, 0, none⟩), .int .i64 1099511627776, .int .i64 1048576] W fun e W' => e = .returned (.tuple #[pvv ⟨c, false, false, T⟩, .bool true]) ∧ Own w W' w.heap.size v (tC A (c + (T.size : Int)))) := by have h := HW.out; rw [if_neg (by decide), Int.add_zero] at h; exact h
            have r6 := q8 rfl
            have hGe : A.extract 0 (c - 1 + (T.size : Int)).toNat = A.extract 0 (c + (T.size : Int) - 1).toNat := by congr 1; omega
            have HGe := Lib.hid hGe
            clear hGe q7 q8
            generalize A.extract 0 (c - 1 + (T.size : Int)).toNat = R at *
            generalize A.extract 0 (c - 1).toNat = G at *
            go_wp2_with fail
            refine (HW.out _ L.out).mono ?_; rintro e w4 ⟨rfl, hL4⟩
            have L5 : Hid (Own w (w4.alloc (.cells (pcs ⟨c, false, false, T⟩) 46)) w.heap.size v (tC A (c + (T.size : Int)))) := hL4.alloc _
            have P5 : Hid (PB w4.heap.size ⟨c, false, false, T⟩ (w4.alloc (.cells (pcs ⟨c, false, false, T⟩) 46))) := PB.new _ _
            clear hL4 HW L
            go_upto_region 21 with (refine wpList_store_last rfl 46 _ _ rfl w4 _ (pcs ⟨c, false, false, T⟩) rfl rfl rfl info46 rfl (pcs_one _) ?_)
            generalize w4.heap.size = pa at *
            generalize w4.alloc (.cells (pcs ⟨c, false, false, T⟩) 46) = w5 at *
            have g0 := P5.out.c0
            have g1 := P5.out.c1
            have g2 := P5.out.c2
            have g3 := P5.out.c3
            go_wp2_with fail
            go_roundw
            case rel => exact ⟨m + 1, (c + (T.size : Int)), by omega, by omega, by omega, by go_num, by rw [HGe.out], by rw [if_neg (by omega)], by rw [if_neg (by omega)], L5.out⟩
            case measure => simp [intOf]; omega
end Go.Proofs.Ythkmdonmbdncaaa
