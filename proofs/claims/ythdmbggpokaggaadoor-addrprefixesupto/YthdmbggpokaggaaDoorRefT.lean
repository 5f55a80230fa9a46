/-
  Contracts of the document's answer's functions of texts: chr, plain, Digits, big.
-/
import Derived.Test.YthdmbggpokaggaaDoorStr
import Derived.Laws.IdiomStrings
import Derived.Deep.QuietTactic
import Derived.BigQuiet
import Derived.Deep.CutRange
namespace Go.Proofs.YthdmbggpokaggaaDoor
open Go.RowKit
set_option linter.unusedVariables false

/-- 'string(b)' of a block of bytes that was just laid. -/
theorem conv_new (w : World) (l : List UInt8) (cap : Nat) (C : Array Value) (hC : C = (l.map fun b => Value.int .u8 (b.toNat : Int)).toArray) :
    (convert 67 9 (.slice (some ⟨w.heap.size, 0, none⟩) l.length cap)).run Tryd.prog (w.alloc (.cells C 5)) = .ok (.string ⟨l.toArray⟩) (w.alloc (.cells C 5)) := by
  refine run_convert_bytes_back _ 67 9 5 ⟨w.heap.size, 0, none⟩ cap l Tryd.underlying67 Tryd.underlying5 Tryd.underlying9 ?_
  intro j hj
  have := World.cell?_alloc_mark w C 5 (0, 0) j
  have ha : (⟨w.heap.size, 0, none⟩ : Addr).add j = ⟨w.heap.size, j, none⟩ := by
    simp only [Addr.add]; split
    · subst_vars; rfl
    · simp
  rw [ha]
  refine this.trans ?_
  subst hC
  simp [List.getElem?_eq_getElem hj]

theorem chr_any (n : Nat) (w : World) (hn : n ≤ 255) :
    Calls Tryd.prog 39 #[.int .i64 n] w fun e w' => e = .returned (.string ⟨#[UInt8.ofNat n]⟩) ∧ Below w.heap.size w w' := by
  have hc := conv_new w [UInt8.ofNat n] 1 #[.int .u8 (n : Int)] (by
    simp only [List.map_cons, List.map_nil, UInt8.toNat_ofNat']
    rw [show ((n : Int)) = ((n % 2 ^ 8 : Nat) : Int) from by omega])
  simp only [List.length_cons, List.length_nil, Nat.zero_add] at hc
  go_enter Tryd.func39, Tryd.ntmps39
  go_wp2
  go_ret
  exact ⟨rfl, (Below.refl _ _).alloc (Nat.le_refl _) _⟩

theorem dec_long (n : Nat) : (Lib.decDigits n).length ≤ n + 1 := by
  induction n using Nat.strongRecOn with
  | _ n ih =>
    rw [Lib.decDigits]
    split
    · simp
    · have := ih (n / 10) (by omega)
      simp only [List.length_append, List.length_cons, List.length_nil]
      omega

theorem plain_any (n : Nat) : ∀ (w : World), n ≤ 1000000 →
    Calls Tryd.prog 40 #[.int .u64 n] w fun e w' => e = .returned (.string ⟨(Lib.decDigits n).toArray⟩) ∧ Below w.heap.size w w' := by
  induction n using Nat.strongRecOn with
  | _ n ih =>
    intro w hn
    have HC : Hid (∀ (q : Int) (u : Nat) w' (c : UInt8), q = (u : Int) → u ≤ 255 → Hid (UInt8.ofNat u = c) → Calls Tryd.prog 39 #[.int .i64 q] w' fun e w'' => e = .returned (.string ⟨#[c]⟩) ∧ Below w'.heap.size w' w'') := fun q u w' c hq hu hc => by rw [hq, ← hc.out]; exact chr_any u w' hu
    by_cases h : n < 10
    · have hd : Lib.decDigits n = [UInt8.ofNat (48 + n)] := by rw [Lib.decDigits, dif_pos h]
      rw [hd]
      have h' : (n : Int) < 10 := by omega
      clear ih hd
      obtain ⟨c, hc⟩ : ∃ c, Hid (UInt8.ofNat (48 + n) = c) := ⟨_, rfl⟩
      rw [hc.out]
      go_enter Tryd.func40, Tryd.ntmps40
      go_wp2_with fail
      refine (HC.out _ (48 + n) _ c (by omega) (by omega) hc).mono ?_; rintro e w1 ⟨rfl, hb1⟩
      go_wp2
      go_ret
      exact ⟨rfl, hb1⟩
    · have HI : Hid (∀ (q : Int) w', q = ((n / 10 : Nat) : Int) → Calls Tryd.prog 40 #[.int .u64 q] w' fun e w'' => e = .returned (.string ⟨(Lib.decDigits (n / 10)).toArray⟩) ∧ Below w'.heap.size w' w'') := fun q w' hq => by rw [hq]; exact ih (n / 10) (by omega) w' (by omega)
      have HD : Hid ((⟨(Lib.decDigits n).toArray⟩ : ByteArray) = ⟨(Lib.decDigits (n / 10)).toArray⟩ ++ ⟨#[UInt8.ofNat (48 + n % 10)]⟩) := by
        show _ = _
        rw [show (⟨#[UInt8.ofNat (48 + n % 10)]⟩ : ByteArray) = ⟨[UInt8.ofNat (48 + n % 10)].toArray⟩ from rfl, ba_app]
        conv => lhs; rw [Lib.decDigits, dif_neg h]
      have hlen : (Lib.decDigits (n / 10)).length ≤ 1000000 := by
        have := dec_long (n / 10)
        omega
      obtain ⟨c, hc⟩ : ∃ c, Hid (UInt8.ofNat (48 + n % 10) = c) := ⟨_, rfl⟩
      rw [hc.out] at HD
      clear ih
      have h' : ¬ (n : Int) < 10 := by omega
      go_enter Tryd.func40, Tryd.ntmps40
      go_wp2_with fail
      refine (HI.out _ _ (by omega)).mono ?_; rintro e w1 ⟨rfl, hb1⟩
      go_wp2_with fail
      refine (HC.out _ (48 + n % 10) _ c (by omega) (by omega) hc).mono ?_; rintro e w2 ⟨rfl, hb2⟩
      go_wp2
      go_ret
      exact ⟨ret_str HD.out.symm, hb1.trans (hb2.mono hb1.size)⟩

theorem digits_any (n : Nat) (w : World) (hn : n ≤ 1000000) :
    Calls Tryd.prog 29 #[.int .i64 n] w fun e w' => e = .returned (.string ⟨(Lib.decDigits n).toArray⟩) ∧ Below w.heap.size w w' := by
  have HP : Hid (∀ w', Calls Tryd.prog 40 #[.int .u64 n] w' fun e w'' => e = .returned (.string ⟨(Lib.decDigits n).toArray⟩) ∧ Below w'.heap.size w' w'') := fun w' => plain_any n w' hn
  have h0 : ¬ (n : Int) < 0 := by omega
  generalize (Lib.decDigits n).toArray = D at *
  go_enter Tryd.func29, Tryd.ntmps29
  go_wp2_with fail
  refine (HP.out _).mono ?_; rintro e w1 ⟨rfl, hb1⟩
  go_wp2
  go_ret
  exact ⟨rfl, hb1⟩

/-- The bytes of a number, the highest first. -/
def bb : Nat → Nat → List UInt8
  | _, 0 => []
  | n, m + 1 => bb (n / 256) m ++ [UInt8.ofNat (n % 256)]
theorem bb_length : ∀ (m n : Nat), (bb n m).length = m
  | 0, _ => rfl
  | m + 1, n => by rw [bb, List.length_append, bb_length m]; rfl

set_option maxHeartbeats 400000 in
theorem big_any (m : Nat) : ∀ (n : Nat) (w : World), (n : Int) ≤ 18446744073709551615 → m ≤ 1000000 →
    Calls Tryd.prog 28 #[.int .u64 n, .int .i64 m] w fun e w' => e = .returned (.string ⟨(bb n m).toArray⟩) ∧ Below w.heap.size w w' := by
  induction m with
  | zero =>
    intro n w hn hm
    go_enter Tryd.func28, Tryd.ntmps28
    go_wp2
    go_ret
    exact ⟨rfl, Below.refl _ _⟩
  | succ m ih =>
    intro n w hn hm
    have HI : Hid (∀ w', Calls Tryd.prog 28 #[.int .u64 ((n : Int) / 256), .int .i64 m] w' fun e w'' => e = .returned (.string ⟨(bb (n / 256) m).toArray⟩) ∧ Below w'.heap.size w' w'') := fun w' => by
      have := ih (n / 256) w' (by omega) (by omega)
      rwa [show ((n / 256 : Nat) : Int) = (n : Int) / 256 from by omega] at this
    clear ih
    have hz : (((m : Int) + 1) == 0) = false := by simp; omega
    go_enter Tryd.func28, Tryd.ntmps28
    go_wp2_with fail
    refine (HI.out _).mono ?_
    rintro e w1 ⟨rfl, hb1⟩
    have hl := bb_length m (n / 256)
    have HB : Hid ((bb n (m + 1)).toArray = (bb (n / 256) m).toArray ++ #[UInt8.ofNat (n % 256)]) := by
      show _ = _
      simp [bb]
    generalize hG : (bb (n / 256) m).toArray = G at *
    have hsz : G.size = m := by rw [← hG]; simpa using hl
    clear hG hl HI
    go_wp2_with fail
    rw [show ((n : Int) % 256) = ((n % 256 : Nat) : Int) from by omega]
    refine (chr_any (n % 256) _ (by omega)).mono ?_
    rintro e w2 ⟨rfl, hb2⟩
    go_wp2
    go_ret
    refine ⟨?_, hb1.trans (hb2.mono hb1.size)⟩
    rw [HB.out]
    show Ending.returned (Value.string (⟨G⟩ ++ ⟨#[UInt8.ofNat (n % 256)]⟩)) = _
    rw [ByteArray.mk_append_mk]
    exact congrArg (fun a => Ending.returned (Value.string ⟨a⟩)) (by apply Array.toList_inj.1; simp)

end Go.Proofs.YthdmbggpokaggaaDoor
