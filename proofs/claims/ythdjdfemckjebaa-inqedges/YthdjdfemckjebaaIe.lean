/-
  The walk of InqEdges.
-/
import Derived.Test.YthdjdfemckjebaaOn
namespace Go.Proofs.Ythdjdfemckjebaa
open Go.RowKit
set_option linter.unusedVariables false
set_option linter.unusedSimpArgs false

/-- What begins behind all that is let in. -/
theorem put_far {t : St} (ok : Ok t) (a : Int) (ha : 0 < a) (x : ByteArray) : put t ((t.f : Int) + 2048 + a) x true = t := by
  refine put_away ok _ x true ?_ (fun _ hk => ?_)
  · have := bh_le t ((t.f : Int) + 2048 + a) x
    have : (t.f : Int) + 2048 + a ≤ fr t ((t.f : Int) + 2048 + a) := by unfold fr; omega
    omega
  · have := hk.2.2.1
    omega
/-- What ends ahead of a place that Next has passed. -/
theorem put_back {t u : St} (ok : Ok u) (hn : t.n ≤ u.n) (a : Int) (ha : 0 ≤ a) (x : ByteArray) : put u ((t.n : Int) - x.size - a) x false = u := by
  refine put_away ok _ x false ?_ (fun h => by cases h)
  have := bh_le u ((t.n : Int) - x.size - a) x
  have : (u.n : Int) ≤ fr u ((t.n : Int) - x.size - a) := by unfold fr; omega
  omega
theorem put_n_ge (t : St) (q : Int) (x : ByteArray) (fin : Bool) : t.n ≤ (put t q x fin).n := by
  unfold put
  split
  · exact Nat.le_refl _
  · exact nput_ge t q x

set_option maxHeartbeats 8000000 in
set_option maxRecDepth 100000 in
theorem edges_walk (o : Option Addr) (b off len cap : Nat) (C : Nat → List Value) (S : Nat → Stp) (at' : Int) (s : ByteArray) (w : World) (hb : 0 < len → o = some ⟨b, off, none⟩ ∧ b < w.heap.size) (hS : StepsAt w b off len C S) (hlen : len * 256 ≤ 140737488355328)
    (htx : ∀ i, i < len → (S i).txt.size ≤ 140737488355328) (ha : -9223372036854775808 ≤ at' ∧ at' ≤ 9223372036854775807) (hs : s.size ≤ 140737488355328) :
    Calls Try.prog 5 #[.slice o len cap, .int .i64 at', .string s] w fun e w' => e = .returned (.bool true) ∧ Below w.heap.size w w' := by
  have HS0 := Lib.hid hS
  have HB0 := Lib.hid hb
  have HT0 := Lib.hid htx
  clear hb hS htx
  go_enter Try.func5, Try.ntmps5
  go_wp2_with fail
  refine (o_new _).mono ?_; rintro e w1 ⟨rfl, hL1⟩
  have L1 := Lib.hid hL1
  clear hL1
  go_wp2_with fail
  go_loopw [18] (fun i W => ∃ (k : Nat) (t : St), k ≤ len ∧ i = .int .i64 k ∧ (t.f = 1 ∧ t.e = 0) ∧ Own w W w.heap.size t) (fun i _ => len - (intOf i).toNat)
  case atStart => exact ⟨0, st0, Nat.zero_le _, rfl, ⟨rfl, rfl⟩, L1.out⟩
  case round =>
    obtain ⟨k, t, hk, rfl, hft, hO⟩ := hrel
    obtain ⟨hf, he⟩ := hft
    have L := Lib.hid hO
    have HFe := Lib.hid (And.intro hf he)
    clear hO L1
    by_cases hlt : k < len
    · obtain ⟨ho, hbb⟩ := HB0.out (by omega)
      subst ho
      obtain ⟨hr', hcs⟩ := HS0.out k hlt
      have F := Lib.hid (step_f HS0.out hlt hbb L.out.be)
      have L4 := Lib.hid (L.out.alloc (.cells (C k).toArray 41))
      have B4 := Lib.hid F.out.blk
      have c1 := B4.out.c1 hcs
      have c4 := B4.out.c4 hcs
      have hn1 := hcs.n1
      have hn2 := hcs.n2
      have hxz : (S k).txt.size ≤ 1152921504606846976 := by have := HT0.out k hlt; omega
      have HP : Hid (∀ W, Own w W w.heap.size t → Calls Try.prog 10 #[.pointer (some ⟨w.heap.size, 0, none⟩), .int .i64 (S k).num, .string (S k).txt, .bool false] W fun e w' => e = .returned (.bool (moved t (S k).num (S k).txt false)) ∧ Own w w' w.heap.size (put t (S k).num (S k).txt false) ∧ Kp [w.heap.size] W w') := fun W h => o_put h (by omega) (S k).num hn1 hn2 (S k).txt hxz false
      have HF2 : Hid ((put t (S k).num (S k).txt false).f = 1 ∧ (put t (S k).num (S k).txt false).e = 0) := ⟨by rw [put_ff]; exact hf, by rw [put_e]; exact he⟩
      clear hcs hr' hbb L hf he hxz hn1 hn2
      generalize C k = cs at *
      generalize (S k).num = num at *
      generalize (S k).txt = x at *
      generalize put t num x false = t' at *
      go_wp2_with (first | (refine wpList_load_mid rfl 41 _ rfl b (off + k * 45) rfl cs _ F.out.rr Try.underlying41 rfl F.out.hi ?_) | (refine wpList_store_last rfl 41 _ _ rfl wr _ cs.toArray rfl rfl rfl F.out.hi' F.out.h45 F.out.one ?_))
      refine (HP.out _ L4.out).mono ?_; rintro e w5 ⟨rfl, hL5, _⟩
      have L5 := Lib.hid hL5
      clear hL5 L4 B4 F HP c1 c4
      go_wp2_with fail
      go_roundw
      case rel => exact ⟨k + 1, t', by omega, by go_num, HF2.out, L5.out⟩
      case measure => simp only [intOf]; omega
    · have ok := L.out.ok
      have hsz : s.size ≤ 1152921504606846976 := by omega
      have HRs : Hid (∀ w', Calls Try.prog 23 #[.int .i64 at', .int .i64 5000] w' fun e w'' => e = .returned (.int .i64 (at' % 5000)) ∧ w'' = w') := fun w' => rest_any at' 5000 w' (by omega) (by omega) ha.1 ha.2
      have ha0 := Int.emod_nonneg at' (show (5000 : Int) ≠ 0 by omega)
      have ha1 := Int.emod_lt_of_pos at' (show (0 : Int) < 5000 by omega)
      generalize at' % 5000 = a at *
      have hov : over t = false := by unfold over; rw [he]; simp
      have hnx := not_over_nxt hov
      have hfn := ok.fn
      have hnw := ok.nw
      have hed : (t.n : Int) + wnd t = (t.f : Int) + 2048 := by unfold wnd; omega
      obtain ⟨t1, ht1⟩ : ∃ t1, t1 = put t ((t.f : Int) + 2048 + a) s true := ⟨_, rfl⟩
      have ok1 : Ok t1 := by rw [ht1]; exact ok.put _ s true
      have hn1 : t.n ≤ t1.n := by rw [ht1]; exact put_n_ge _ _ _ _
      have hf1 : t1.f ≤ 1152921504606846976 := by rw [ht1, put_ff]; omega
      have HB : Hid (put t1 ((t.n : Int) - s.size - a) s false = t1) := put_back ok1 hn1 a ha0 s
      have HFar : Hid (0 < a → t1 = t) := fun h => by rw [ht1]; exact put_far ok a h s
      have HP1 : Hid (∀ W q, q = (t.f : Int) + 2048 + a → Own w W w.heap.size t → Calls Try.prog 10 #[.pointer (some ⟨w.heap.size, 0, none⟩), .int .i64 q, .string s, .bool true] W fun e w' => e = .returned (.bool (moved t ((t.f : Int) + 2048 + a) s true)) ∧ Own w w' w.heap.size t1) := fun W q hq h => by
        subst hq
        exact (o_put h (by omega) _ (by omega) (by omega) s hsz true).mono fun e w' h' => ⟨h'.1, by rw [ht1]; exact h'.2.1⟩
      have HP2 : Hid (∀ W q, q = (t.n : Int) - s.size - a → Own w W w.heap.size t1 → Calls Try.prog 10 #[.pointer (some ⟨w.heap.size, 0, none⟩), .int .i64 q, .string s, .bool false] W fun e w' => e = .returned (.bool false) ∧ Own w w' w.heap.size t1) := fun W q hq h => by
        subst hq
        exact (o_put h hf1 _ (by omega) (by omega) s hsz false).mono fun e w' h' => ⟨by rw [← moved_same HB.out]; exact h'.1, by have := h'.2.1; rwa [HB.out] at this⟩
      have HN0 : Hid (∀ W, Own w W w.heap.size t → Calls Try.prog 14 #[.pointer (some ⟨w.heap.size, 0, none⟩)] W fun e w' => e = .returned (.int .i64 (t.n : Int)) ∧ Own w w' w.heap.size t) := fun W h => (o_next h).mono fun e w' h' => ⟨by rw [← hnx]; exact h'.1, by rw [h'.2]; exact h⟩
      have HW0 : Hid (∀ W, Own w W w.heap.size t → Calls Try.prog 16 #[.pointer (some ⟨w.heap.size, 0, none⟩)] W fun e w' => e = .returned (.int .i64 (wnd t)) ∧ Own w w' w.heap.size t) := fun W h => o_window h (by omega)
      have HR0 : Hid (∀ W, Own w W w.heap.size t → Calls Try.prog 18 #[.pointer (some ⟨w.heap.size, 0, none⟩)] W fun e w' => e = .returned (.int .i64 (rdy t : Int)) ∧ Own w w' w.heap.size t) := fun W h => o_ready h (by omega)
      have HN1 : Hid (∀ W, Own w W w.heap.size t1 → Calls Try.prog 14 #[.pointer (some ⟨w.heap.size, 0, none⟩)] W fun e w' => e = .returned (.int .i64 (nxt t1 : Int)) ∧ Own w w' w.heap.size t1) := fun W h => (o_next h).mono fun e w' h' => ⟨h'.1, by rw [h'.2]; exact h⟩
      have HR1 : Hid (∀ W, Own w W w.heap.size t1 → Calls Try.prog 18 #[.pointer (some ⟨w.heap.size, 0, none⟩)] W fun e w' => e = .returned (.int .i64 (rdy t1 : Int)) ∧ Own w w' w.heap.size t1) := fun W h => o_ready h hf1
      have HEq : Hid (0 < a → moved t ((t.f : Int) + 2048 + a) s true = false ∧ (nxt t1 : Int) = (t.n : Int) ∧ (rdy t1 : Int) = (rdy t : Int)) := fun h => by
        have e1 := HFar.out h
        refine ⟨moved_same (by rw [← ht1]; exact e1), by rw [e1, hnx], by rw [e1]⟩
      have hw0 : (0 : Int) ≤ wnd t := by unfold wnd; omega
      have hw1 : wnd t ≤ 2048 := by unfold wnd; omega
      have hnb : (t.n : Int) ≤ 2049 := by omega
      have hn0 : (0 : Int) ≤ (t.n : Int) := by omega
      have hfb : (t.f : Int) = 1 := by omega
      clear ok ok1 HB HFar ht1 hov hnx hn1 hf1 hfn hnw hf he HFe ha
      generalize (moved t ((t.f : Int) + 2048 + a) s true) = mv at *
      generalize (nxt t1 : Int) = vN at *
      generalize (rdy t1 : Int) = vR at *
      generalize (rdy t : Int) = vr at *
      generalize wnd t = vW at *
      generalize (t.n : Int) = n at *
      generalize (t.f : Int) = f at *
      go_wp2_with fail
      refine (HN0.out _ L.out).mono ?_; rintro e w2 ⟨rfl, h2⟩
      go_wp2_with fail
      refine (HN0.out _ h2).mono ?_; rintro e w3 ⟨rfl, h3⟩
      clear h2
      go_wp2_with fail
      refine (HW0.out _ h3).mono ?_; rintro e w4 ⟨rfl, h4⟩
      clear h3
      go_wp2_with fail
      refine (HR0.out _ h4).mono ?_; rintro e w5 ⟨rfl, h5⟩
      clear h4
      go_wp2_with fail
      refine (HRs.out _).mono ?_; rintro e w6 ⟨rfl, rfl⟩
      go_wp2_with fail
      refine (HP1.out _ _ (by omega) h5).mono ?_; rintro e w7 ⟨rfl, h7⟩
      clear h5
      by_cases hz : 0 < a
      · obtain ⟨e1, e2, e3⟩ := HEq.out hz
        subst e1 e2 e3
        clear HEq
        go_wp2_with fail
        refine (HP2.out _ _ (by omega) h7).mono ?_; rintro e w8 ⟨rfl, h8⟩
        clear h7
        go_wp2_with fail
        refine (HN1.out _ h8).mono ?_; rintro e w9 ⟨rfl, h9⟩
        clear h8
        go_wp2_with fail
        refine (HR1.out _ h9).mono ?_; rintro e w10 ⟨rfl, h10⟩
        have hbe := Lib.hid h10.be
        clear h9 h10
        go_wp2_with fail
        go_ret
        exact ⟨ret_bool (by first | rfl | (simp; done)), hbe.out⟩
      · obtain rfl : a = 0 := by omega
        clear HEq hz
        cases mv
        · go_wp2_with fail
          refine (HP2.out _ _ (by omega) h7).mono ?_; rintro e w8 ⟨rfl, h8⟩
          clear h7
          go_wp2_with fail
          refine (HN1.out _ h8).mono ?_; rintro e w9 ⟨rfl, h9⟩
          clear h8
          by_cases hN : vN = n
          · subst hN
            go_wp2_with fail
            refine (HR1.out _ h9).mono ?_; rintro e w10 ⟨rfl, h10⟩
            have hbe := Lib.hid h10.be
            clear h9 h10
            by_cases hR : vR = vr
            · subst hR
              go_wp2_with fail
              go_ret
              exact ⟨ret_bool (by first | rfl | (simp; done)), hbe.out⟩
            · have hR' : (vR == vr) = false := beq_eq_false_iff_ne.2 hR
              go_wp2_with fail
              go_ret
              exact ⟨ret_bool (by first | rfl | (simp; done)), hbe.out⟩
          · have hN' : (vN == n) = false := beq_eq_false_iff_ne.2 hN
            have hbe := Lib.hid h9.be
            clear h9
            go_wp2_with fail
            go_ret
            exact ⟨ret_bool (by first | rfl | (simp; done)), hbe.out⟩
        · go_wp2_with fail
          refine (HP2.out _ _ (by omega) h7).mono ?_; rintro e w8 ⟨rfl, h8⟩
          clear h7
          go_wp2_with fail
          refine (HN1.out _ h8).mono ?_; rintro e w9 ⟨rfl, h9⟩
          clear h8
          by_cases hN : vN = n
          · subst hN
            go_wp2_with fail
            refine (HR1.out _ h9).mono ?_; rintro e w10 ⟨rfl, h10⟩
            have hbe := Lib.hid h10.be
            clear h9 h10
            by_cases hR : vR = vr
            · subst hR
              go_wp2_with fail
              go_ret
              exact ⟨ret_bool (by first | rfl | (simp; done)), hbe.out⟩
            · have hR' : (vR == vr) = false := beq_eq_false_iff_ne.2 hR
              go_wp2_with fail
              go_ret
              exact ⟨ret_bool (by first | rfl | (simp; done)), hbe.out⟩
          · have hN' : (vN == n) = false := beq_eq_false_iff_ne.2 hN
            have hbe := Lib.hid h9.be
            clear h9
            go_wp2_with fail
            go_ret
            exact ⟨ret_bool (by first | rfl | (simp; done)), hbe.out⟩
end Go.Proofs.Ythdjdfemckjebaa
