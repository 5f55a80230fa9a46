/-
  The walk of InqTwice.
-/
import Derived.Test.YthdjdfemckjebaaOn
namespace Go.Proofs.Ythdjdfemckjebaa
open Go.RowKit
set_option linter.unusedVariables false
set_option linter.unusedSimpArgs false

set_option maxHeartbeats 8000000 in
set_option maxRecDepth 100000 in
theorem twice_walk (o : Option Addr) (b off len cap : Nat) (C : Nat → List Value) (S : Nat → Stp) (at' : Int) (s : ByteArray) (fin : Bool) (w : World) (hb : 0 < len → o = some ⟨b, off, none⟩ ∧ b < w.heap.size) (hS : StepsAt w b off len C S) (hlen : len * 256 ≤ 140737488355328)
    (htx : ∀ i, i < len → (S i).txt.size ≤ 140737488355328) (ha : -9223372036854775808 ≤ at' ∧ at' ≤ 9223372036854775807) (hs : s.size ≤ 140737488355328) :
    Calls Try.prog 6 #[.slice o len cap, .int .i64 at', .string s, .bool fin] w fun e w' => e = .returned (.bool true) ∧ Below w.heap.size w w' := by
  have HS0 := Lib.hid hS
  have HB0 := Lib.hid hb
  have HT0 := Lib.hid htx
  clear hb hS htx
  go_enter Try.func6, Try.ntmps6
  go_wp2_with fail
  refine (o_new _).mono ?_; rintro e w1 ⟨rfl, hL1⟩
  have L1 := Lib.hid hL1
  clear hL1
  go_wp2_with fail
  go_loopw [20] (fun i W => ∃ (k : Nat) (t : St), k ≤ len ∧ i = .int .i64 k ∧ (t.f = 1 ∧ t.e = 0) ∧ Own w W w.heap.size t) (fun i _ => len - (intOf i).toNat)
  case atStart => exact ⟨0, st0, Nat.zero_le _, rfl, ⟨rfl, rfl⟩, L1.out⟩
  case round =>
    obtain ⟨k, t, hk, rfl, hft, hO⟩ := hrel
    obtain ⟨hf, he⟩ := hft
    have L := Lib.hid hO
    have HFe := Lib.hid (And.intro hf he)
    clear hO L1
    by_cases hlt : k < len
    · obtain ⟨ho, hbb⟩ := HB0.out (by omega)
      subst ho
      obtain ⟨hr', hcs⟩ := HS0.out k hlt
      have F := Lib.hid (step_f HS0.out hlt hbb L.out.be)
      have L4 := Lib.hid (L.out.alloc (.cells (C k).toArray 41))
      have B4 := Lib.hid F.out.blk
      have c1 := B4.out.c1 hcs
      have c4 := B4.out.c4 hcs
      have hn1 := hcs.n1
      have hn2 := hcs.n2
      have hxz : (S k).txt.size ≤ 1152921504606846976 := by have := HT0.out k hlt; omega
      have HP : Hid (∀ W, Own w W w.heap.size t → Calls Try.prog 10 #[.pointer (some ⟨w.heap.size, 0, none⟩), .int .i64 (S k).num, .string (S k).txt, .bool false] W fun e w' => e = .returned (.bool (moved t (S k).num (S k).txt false)) ∧ Own w w' w.heap.size (put t (S k).num (S k).txt false) ∧ Kp [w.heap.size] W w') := fun W h => o_put h (by omega) (S k).num hn1 hn2 (S k).txt hxz false
      have HF2 : Hid ((put t (S k).num (S k).txt false).f = 1 ∧ (put t (S k).num (S k).txt false).e = 0) := ⟨by rw [put_ff]; exact hf, by rw [put_e]; exact he⟩
      clear hcs hr' hbb L hf he hxz hn1 hn2
      generalize C k = cs at *
      generalize (S k).num = num at *
      generalize (S k).txt = x at *
      generalize put t num x false = t' at *
      go_wp2_with (first | (refine wpList_load_mid rfl 41 _ rfl b (off + k * 45) rfl cs _ F.out.rr Try.underlying41 rfl F.out.hi ?_) | (refine wpList_store_last rfl 41 _ _ rfl wr _ cs.toArray rfl rfl rfl F.out.hi' F.out.h45 F.out.one ?_))
      refine (HP.out _ L4.out).mono ?_; rintro e w5 ⟨rfl, hL5, _⟩
      have L5 := Lib.hid hL5
      clear hL5 L4 B4 F HP c1 c4
      go_wp2_with fail
      go_roundw
      case rel => exact ⟨k + 1, t', by omega, by go_num, HF2.out, L5.out⟩
      case measure => simp only [intOf]; omega
    · have ok := L.out.ok
      have hsz : s.size ≤ 1152921504606846976 := by omega
      obtain ⟨t1, ht1⟩ : ∃ t1, t1 = put t at' s fin := ⟨_, rfl⟩
      have hf1 : t1.f ≤ 1152921504606846976 := by rw [ht1, put_ff]; omega
      have HT1 := Lib.hid ht1
      have HTw : Hid (put t1 at' s fin = t1) := by show _ = _; rw [ht1]; exact put_twice ok he at' s fin
      have HMv : Hid (moved t1 at' s fin = false) := moved_same HTw.out
      have HP1 : Hid (∀ W, Own w W w.heap.size t → Calls Try.prog 10 #[.pointer (some ⟨w.heap.size, 0, none⟩), .int .i64 at', .string s, .bool fin] W fun e w' => e = .returned (.bool (moved t at' s fin)) ∧ Own w w' w.heap.size t1) := fun W h => (o_put h (by omega) at' ha.1 ha.2 s hsz fin).mono fun e w' h' => ⟨h'.1, by rw [ht1]; exact h'.2.1⟩
      have HP2 : Hid (∀ W, Own w W w.heap.size t1 → Calls Try.prog 10 #[.pointer (some ⟨w.heap.size, 0, none⟩), .int .i64 at', .string s, .bool fin] W fun e w' => e = .returned (.bool false) ∧ Own w w' w.heap.size t1) := fun W h => (o_put h hf1 at' ha.1 ha.2 s hsz fin).mono fun e w' h' => ⟨by rw [← HMv.out]; exact h'.1, by have := h'.2.1; rwa [HTw.out] at this⟩
      have HN : Hid (∀ W, Own w W w.heap.size t1 → Calls Try.prog 14 #[.pointer (some ⟨w.heap.size, 0, none⟩)] W fun e w' => e = .returned (.int .i64 (nxt t1 : Int)) ∧ Own w w' w.heap.size t1) := fun W h => (o_next h).mono fun e w' h' => ⟨h'.1, by rw [h'.2]; exact h⟩
      have HR : Hid (∀ W, Own w W w.heap.size t1 → Calls Try.prog 18 #[.pointer (some ⟨w.heap.size, 0, none⟩)] W fun e w' => e = .returned (.int .i64 (rdy t1 : Int)) ∧ Own w w' w.heap.size t1) := fun W h => o_ready h hf1
      have HO : Hid (∀ W, Own w W w.heap.size t1 → Calls Try.prog 20 #[.pointer (some ⟨w.heap.size, 0, none⟩)] W fun e w' => e = .returned (.bool (over t1)) ∧ Own w w' w.heap.size t1) := fun W h => o_over h
      have ok1 : Ok t1 := by rw [ht1]; exact ok.put at' s fin
      have hwn := wnd_rdy ok1.lo
      have HW : Hid (∀ W, Own w W w.heap.size t1 → Calls Try.prog 16 #[.pointer (some ⟨w.heap.size, 0, none⟩)] W fun e w' => e = .returned (.int .i64 (2048 - (rdy t1 : Int))) ∧ Own w w' w.heap.size t1) := fun W h => (o_window h hf1).mono fun e w' h' => ⟨by rw [← hwn]; exact h'.1, h'.2⟩
      have hr0 : (0 : Int) ≤ (rdy t1 : Int) := by omega
      have hr1 : (rdy t1 : Int) ≤ 2048 := by have := ok1.nw; unfold rdy; omega
      clear ok ok1 hwn hf1 ht1 HT1 HTw HMv hsz
      generalize moved t at' s fin = mv at *
      generalize (nxt t1 : Int) = vN at *
      generalize (rdy t1 : Int) = vR at *
      generalize over t1 = vO at *
      go_wp2_with fail
      refine (HP1.out _ L.out).mono ?_; rintro e w2 ⟨rfl, h2⟩
      go_wp2_with fail
      refine (HN.out _ h2).mono ?_; rintro e w3 ⟨rfl, h3⟩
      clear h2
      go_wp2_with fail
      refine (HR.out _ h3).mono ?_; rintro e w4 ⟨rfl, h4⟩
      clear h3
      go_wp2_with fail
      refine (HO.out _ h4).mono ?_; rintro e w5 ⟨rfl, h5⟩
      clear h4
      go_wp2_with fail
      refine (HP2.out _ h5).mono ?_; rintro e w6 ⟨rfl, h6⟩
      clear h5
      go_wp2_with fail
      refine (HN.out _ h6).mono ?_; rintro e w7 ⟨rfl, h7⟩
      clear h6
      go_wp2_with fail
      refine (HR.out _ h7).mono ?_; rintro e w8 ⟨rfl, h8⟩
      clear h7
      go_wp2_with fail
      refine (HO.out _ h8).mono ?_; rintro e w9 ⟨rfl, h9⟩
      clear h8
      go_wp2_with fail
      refine (HW.out _ h9).mono ?_; rintro e w10 ⟨rfl, h10⟩
      have hbe := Lib.hid h10.be
      clear h9 h10
      go_wp2_with fail
      go_ret
      exact ⟨ret_bool (by first | rfl | (simp; done)), hbe.out⟩
end Go.Proofs.Ythdjdfemckjebaa
