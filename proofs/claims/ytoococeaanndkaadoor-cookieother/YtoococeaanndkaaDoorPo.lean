/-
  Ahead of the document's Pair: its addresses' and ports' bytes.
-/
import Derived.Test.YtoococeaanndkaaDoorPa
namespace Go.Proofs.YtoococeaanndkaaDoor
open Go.RowKit
set_option linter.unusedVariables false
set_option linter.unusedSimpArgs false

theorem emod_of_tmod (n m : Int) (h1 : 1 ≤ m) : n % m = if n.tmod m < 0 then n.tmod m + m else n.tmod m := by
  have e : n = n.tmod m + m * n.tdiv m := (Int.tmod_add_mul_tdiv n m).symm
  have l1 := Int.tmod_lt_of_pos n (show 0 < m by omega)
  have l2 := Int.lt_tmod_of_pos n (show 0 < m by omega)
  have e2 : n % m = (n.tmod m) % m := by
    conv => lhs; rw [e]
    rw [Int.add_mul_emod_self_left]
  rw [e2]
  split
  · rw [← Int.add_emod_right, Int.emod_eq_of_lt (by omega) (by omega)]
  · rw [Int.emod_eq_of_lt (by omega) (by omega)]
theorem rest_any (n m : Int) (w : World) (h1 : 1 ≤ m) (hm : m ≤ 9223372036854775807) (hn : -9223372036854775808 ≤ n) (hn2 : n ≤ 9223372036854775807) :
    Calls Tryd.prog 12 #[.int .i64 n, .int .i64 m] w fun e w' => e = .returned (.int .i64 (n % m)) ∧ w' = w := by
  have hz : (m == 0) = false := by simp; omega
  have HE : Hid (n % m = if n.tmod m < 0 then n.tmod m + m else n.tmod m) := emod_of_tmod n m h1
  have l2 := Int.lt_tmod_of_pos n (show 0 < m by omega)
  by_cases hneg : n.tmod m < 0
  · go_enter Tryd.func12, Tryd.ntmps12
    go_wp2
    go_ret
    exact ⟨ret_int (by rw [HE.out, if_pos hneg]), rfl⟩
  · go_enter Tryd.func12, Tryd.ntmps12
    go_wp2
    go_ret
    exact ⟨ret_int (by rw [HE.out, if_neg (by omega)]), rfl⟩
/-- The lowest bytes of a number, the highest first. -/
def bb (n : Nat) : Nat → List UInt8
  | 0 => []
  | m + 1 => bb (n / 256) m ++ [UInt8.ofNat (n % 256)]
theorem bb_length (n m : Nat) : (bb n m).length = m := by
  induction m generalizing n with
  | zero => rfl
  | succ m ih => simp [bb, ih]
set_option maxHeartbeats 400000 in
theorem big_any (m : Nat) : ∀ (n : Nat) (w : World), (n : Int) ≤ 18446744073709551615 → m ≤ 1000000 →
    Calls Tryd.prog 25 #[.int .u64 n, .int .i64 m] w fun e w' => e = .returned (.string ⟨(bb n m).toArray⟩) ∧ Below w.heap.size w w' := by
  induction m with
  | zero =>
    intro n w hn hm
    go_enter Tryd.func25, Tryd.ntmps25
    go_wp2
    go_ret
    exact ⟨rfl, Below.refl _ _⟩
  | succ m ih =>
    intro n w hn hm
    have HI : Hid (∀ w', Calls Tryd.prog 25 #[.int .u64 ((n : Int) / 256), .int .i64 m] w' fun e w'' => e = .returned (.string ⟨(bb (n / 256) m).toArray⟩) ∧ Below w'.heap.size w' w'') := fun w' => by
      have := ih (n / 256) w' (by omega) (by omega)
      rwa [show ((n / 256 : Nat) : Int) = (n : Int) / 256 from by omega] at this
    clear ih
    have hz : (((m : Int) + 1) == 0) = false := by simp; omega
    go_enter Tryd.func25, Tryd.ntmps25
    go_wp2_with fail
    refine (HI.out _).mono ?_
    rintro e w1 ⟨rfl, hb1⟩
    have hl := bb_length (n / 256) m
    have ho := one_sz (n % 256)
    have HB : Hid ((bb n (m + 1)).toArray = (bb (n / 256) m).toArray ++ #[UInt8.ofNat (n % 256)]) := by
      show _ = _
      simp [bb]
    generalize hG : (bb (n / 256) m).toArray = G at *
    have hsz : G.size = m := by rw [← hG]; simpa using hl
    clear hG hl HI
    go_wp2_with fail
    rw [show ((n : Int) % 256) = ((n % 256 : Nat) : Int) from by omega]
    refine (chr_any (n % 256) _ rfl _ (by omega)).mono ?_
    rintro e w2 ⟨rfl, hb2⟩
    go_wp2
    go_ret
    refine ⟨?_, hb1.trans (hb2.mono hb1.size)⟩
    rw [HB.out]
    show Ending.returned (Value.string (⟨G⟩ ++ ⟨#[UInt8.ofNat (n % 256)]⟩)) = _
    rw [ByteArray.mk_append_mk]
    exact congrArg (fun a => Ending.returned (Value.string ⟨a⟩)) (by apply Array.toList_inj.1; simp)

theorem ofNat_mod (n m : Nat) (h : n % 256 = m % 256) : UInt8.ofNat n = UInt8.ofNat m := by
  apply UInt8.toNat_inj.1; rw [UInt8.toNat_ofNat', UInt8.toNat_ofNat']; exact h
/-- The four bytes of an address, and the two of a port. -/
def aT (e : En) : ByteArray := ⟨(bb e.a 4).toArray⟩
def pT (e : En) : ByteArray := ⟨(bb (lo e.p) 2).toArray⟩
theorem aT_size (e : En) : (aT e).size = 4 := rfl
theorem pT_size (e : En) : (pT e).size = 2 := rfl
theorem ap_list (e : En) : bb e.a 4 ++ bb (lo e.p) 2 = eb e := by
  unfold eb
  simp only [bb, List.nil_append, List.cons_append]
  rw [ofNat_mod (e.a / 256 / 256 / 256 % 256) (e.a / 16777216) (by omega), ofNat_mod (e.a / 256 / 256 % 256) (e.a / 65536) (by omega), ofNat_mod (e.a / 256 % 256) (e.a / 256) (by omega), ofNat_mod (e.a % 256) e.a (by omega), ofNat_mod (lo e.p / 256 % 256) (lo e.p / 256) (by omega), ofNat_mod (lo e.p % 256) (lo e.p) (by omega)]
theorem all_list (e f : En) : (aT e ++ pT e ++ aT f ++ pT f).data.toList = eb e ++ eb f := by
  rw [ByteArray.data_append, ByteArray.data_append, ByteArray.data_append, Array.toList_append, Array.toList_append, Array.toList_append]
  show bb e.a 4 ++ bb (lo e.p) 2 ++ bb f.a 4 ++ bb (lo f.p) 2 = _
  rw [← ap_list e, ← ap_list f]; simp only [List.append_assoc]
theorem port_any (e : En) (h : EFits e) (w : World) :
    Calls Tryd.prog 24 #[ev e] w fun x w' => x = .returned (.string (pT e)) ∧ Below w.heap.size w w' := by
  have B0 := Lib.hid (EB.new e w)
  have x1 := B0.out.c1
  obtain ⟨p0, p1⟩ := h.p
  have HR : Hid (∀ W, Calls Tryd.prog 12 #[.int .i64 e.p, .int .i64 65536] W fun x w' => x = .returned (.int .i64 (lo e.p : Nat)) ∧ w' = W) := fun W => by
    have := rest_any e.p 65536 W (by omega) (by omega) p0 p1
    rwa [show e.p % 65536 = ((lo e.p : Nat) : Int) from by unfold lo; omega] at this
  have HB : Hid (∀ W, Calls Tryd.prog 25 #[.int .u64 (lo e.p : Nat), .int .i64 2] W fun x w' => x = .returned (.string (pT e)) ∧ Below W.heap.size W w') := fun W => big_any 2 (lo e.p) W (by unfold lo; omega) (by omega)
  have L0 := Lib.hid ((Below.refl w.heap.size w).alloc (Nat.le_refl _) (.cells #[.int .u32 (e.a : Int), .int .i64 e.p] 25))
  have hlo : lo e.p ≤ 65535 := by unfold lo; omega
  unfold ev
  generalize lo e.p = l at *
  generalize pT e = T at *
  go_enter Tryd.func24, Tryd.ntmps24
  go_wp2_with fail
  refine (HR.out _).mono ?_; rintro x w1 ⟨rfl, rfl⟩
  go_wp2_with fail
  refine (HB.out _).mono ?_; rintro x w2 ⟨rfl, hb⟩
  go_wp2_with fail
  go_ret
  exact ⟨rfl, L0.out.trans (hb.mono L0.out.size)⟩
end Go.Proofs.YtoococeaanndkaaDoor
