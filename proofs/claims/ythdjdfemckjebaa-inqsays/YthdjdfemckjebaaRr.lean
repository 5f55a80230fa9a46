/-
  Contract of the document's Read.
-/
import Derived.Test.YthdjdfemckjebaaRg
import Derived.Test.YthdjdfemckjebaaRd
import Derived.Deep.CutBlock
namespace Go.Proofs.Ythdjdfemckjebaa
open Go.RowKit
set_option linter.unusedVariables false
set_option linter.unusedSimpArgs false

theorem conv_new (w : World) (l : List UInt8) (cap : Nat) (C : Array Value) (hC : C = (l.map fun b => Value.int .u8 (b.toNat : Int)).toArray) :
    (convert 64 9 (.slice (some ⟨w.heap.size, 0, none⟩) l.length cap)).run Try.prog (w.alloc (.cells C 5)) = .ok (.string ⟨l.toArray⟩) (w.alloc (.cells C 5)) := by
  refine run_convert_bytes_back _ 64 9 5 ⟨w.heap.size, 0, none⟩ cap l Try.underlying64 Try.underlying5 Try.underlying9 ?_
  intro j hj
  have := World.cell?_alloc_mark w C 5 (0, 0) j
  have ha : (⟨w.heap.size, 0, none⟩ : Addr).add j = ⟨w.heap.size, j, none⟩ := by
    simp only [Addr.add]; split
    · subst_vars; rfl
    · simp
  rw [ha]
  refine this.trans ?_
  subst hC
  simp [List.getElem?_eq_getElem hj]

theorem chr_any (x : UInt8) (w : World) :
    Calls Try.prog 28 #[.int .i64 (x.toNat : Int)] w fun e w' => e = .returned (.string ⟨#[x]⟩) ∧ Below w.heap.size w w' := by
  have hc := conv_new w [x] 1 #[.int .u8 (x.toNat : Int)] (by simp)
  simp only [List.length_cons, List.length_nil, Nat.zero_add] at hc
  have hx := x.toNat_lt
  have hn : x.toNat ≤ 255 := by omega
  have HX := Lib.hid hc
  generalize hk : x.toNat = k at *
  have hc := HX.out
  clear HX hk hx
  go_enter Try.func28, Try.ntmps28
  go_wp2
  go_ret
  exact ⟨rfl, (Below.refl _ _).alloc (Nat.le_refl _) _⟩
theorem str_one (c : Nat → Option UInt8) (f k : Nat) : str c f k ++ ⟨#[(c (f + k)).getD 0]⟩ = str c f (k + 1) := by
  rw [← str_add]; congr 1
section
variable {b mb m : Nat} {t : St} {w : World}
set_option maxHeartbeats 4000000 in
theorem rread_any (h : UT b mb t m w) (ok : Ok t) (hf : t.f ≤ 1152921504606846976) (q : Int) (q1 : -9223372036854775808 ≤ q) (q2 : q ≤ 9223372036854775807) (S : ByteArray) (hS : S = str t.c t.f (rk t q)) :
    Calls Try.prog 13 #[.pointer (some ⟨b, 0, none⟩), .int .i64 q] w fun e w' => e = .returned (.string S) ∧ UT b mb (rd t q) m w' ∧ Kp [b] w w' := by
  have HR := Lib.hid (rready_any h ok hf)
  have H := Lib.hid h
  have HC := Lib.hid chr_any
  have hkk : rk t q ≤ 2048 := rk_2048 ok q
  have HRk : Hid ((rk t q : Int) = min (max q 0) (rdy t : Int)) := by show _ = _; have := ok.fn; unfold rk rdy; omega
  have hr1 : (0 : Int) ≤ (rdy t : Int) := by omega
  obtain ⟨K, hK⟩ : ∃ K : Nat, K = rk t q := ⟨_, rfl⟩
  have HKK := Lib.hid hK
  rw [← hK] at hkk HRk
  have HS : Hid (S = str t.c t.f K) := by show _ = _; rw [hS, hK]
  clear h ok hS hK
  go_enter Try.func13, Try.ntmps13
  go_wp2_with fail
  refine HR.out.mono ?_
  rintro e w1 ⟨rfl, hm⟩
  have H1 : Hid (UM b mb t.c t.f t.e m w1) := by obtain ⟨m, rfl⟩ := hm; exact H.out.drewN _
  have K1 : Hid (Kp [b] w w1) := by obtain ⟨m, rfl⟩ := hm; exact (Kp.refl _ _).drewN _
  clear HR H hm
  have hKi : min (max q 0) (rdy t : Int) = (K : Int) := HRk.out.symm
  go_wp2_with fail
  clear hKi HRk
  go_loopw [6, 13] (fun s i W => ∃ k : Nat, k ≤ K ∧ s = .string (str t.c t.f k) ∧ i = .int .i64 k ∧ UM b mb t.c (t.f + k) t.e m W ∧ Kp [b] w W) (fun _ i _ => K - (intOf i).toNat)
  case atStart => exact ⟨0, Nat.zero_le _, rfl, rfl, H1.out, K1.out⟩
  case round =>
    obtain ⟨k, hk, rfl, rfl, hU, hKp⟩ := hrel
    have U := Lib.hid hU
    have KK := Lib.hid hKp
    clear hU hKp H1 K1
    rcases Nat.lt_or_ge k K with hlt | hge
    · have hg := U.out.drew.get (t.f + k) (by omega)
      have c0 := U.out.c0
      have c1 := U.out.c1
      have z1 := str_size t.c t.f k
      have ta : ∀ w', (Op.stringOp .add (str t.c t.f k) ⟨#[(t.c (t.f + k)).getD 0]⟩).run Try.prog w' = .ok (.string (str t.c t.f (k + 1))) w' := fun w' => by
        rw [← str_one]; exact run_string_add_sum w' _ _ (by rw [z1]; show k + 1 ≤ _; omega)
      have hy0 : (0 : Int) ≤ (((t.c (t.f + k)).getD 0).toNat : Int) := by omega
      have hy1 : (((t.c (t.f + k)).getD 0).toNat : Int) ≤ 255 := by have := ((t.c (t.f + k)).getD 0).toNat_lt; omega
      have HC1 : Hid (∀ w v, v = (((t.c (t.f + k)).getD 0).toNat : Int) → Calls Try.prog 28 #[.int .i64 v] w fun e w' => e = .returned (.string ⟨#[(t.c (t.f + k)).getD 0]⟩) ∧ Below w.heap.size w w') := fun w v hv => by subst hv; exact chr_any _ w
      clear z1
      generalize (⟨#[(t.c (t.f + k)).getD 0]⟩ : ByteArray) = O at *
      generalize (((t.c (t.f + k)).getD 0).toNat : Int) = y at *
      generalize str t.c t.f k = S1 at *
      generalize hS2 : str t.c t.f (k + 1) = S2 at *
      have HS2 := Lib.hid hS2
      clear hS2
      have HBd : t.f + k ≤ 1152921504606846976 + 2048 := by omega
      generalize hP : t.f + k = P at *
      have HP : Hid (t.f + (k + 1) = P + 1) := by show _ = _; omega
      clear hP
      go_upto_region 5 with fail
      go_cut [6] from 15 to 27 (fun s wc => s = .string S2 ∧ Below wr.heap.size wr wc)
      case first =>
        go_region_with (go_at_call 28; refine (HC1.out _ _ ?_).mono ?_; (rw [IntKind.wrap_i64]; omega); rintro e w5 ⟨rfl, hb5⟩)
        all_goals go_wp2_with fail
        all_goals go_meet
        all_goals exact ⟨rfl, (((Below.refl _ _).drew).trans hb5)⟩
      case rest =>
        obtain ⟨rfl, hb⟩ := hcut
        have U2 := Lib.hid (U.out.keep hb)
        have K2 := Lib.hid (KK.out.then hb)
        have c1 := U2.out.c1
        have f1 := U2.out.free 1
        have HN : Hid (UM b mb t.c (t.f + (k + 1)) t.e m (wc.setCell ⟨b, 1, none⟩ (.int .i64 ((P : Int) + 1)))) := by rw [HP.out]; exact U2.out.set1 (P + 1)
        have HK : Hid (Kp [b] w (wc.setCell ⟨b, 1, none⟩ (.int .i64 ((P : Int) + 1)))) := K2.out.setCell (Or.inl (by simp)) _
        go_wp2_with fail
        go_roundw
        case rel => exact ⟨k + 1, by omega, congrArg _ HS2.out.symm, by go_num, HN.out, HK.out⟩
        case measure => simp only [intOf]; omega
    · obtain rfl : k = K := by omega
      have HD : Hid (UT b mb (rd t q) m = UM b mb t.c (t.f + k) t.e m) := by show _ = _; unfold UT; rw [HKK.out]; rfl
      go_wp2_with fail
      go_ret
      exact ⟨ret_str HS.out.symm, by rw [HD.out]; exact U.out, KK.out⟩
end
end Go.Proofs.Ythdjdfemckjebaa
