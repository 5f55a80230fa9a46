/-
  The contracts of both queues, over the plain data.
-/
import Derived.Test.YthkmdonmbdncaaaMs
import Derived.Test.YthkmdonmbdncaaaOf
namespace Go.Proofs.Ythkmdonmbdncaaa
open Go.RowKit
set_option linter.unusedVariables false
set_option linter.unusedSimpArgs false

abbrev OT (b : Nat) (v : Value) (t : St) (W : World) : Prop := QR b b v (kept t) (lst t) t.sh t.u t.c t.s W
abbrev UT (b : Nat) (t : St) (W : World) : Prop := UR b t.A t.sh t.u t.c t.s W
def nxG (t : St) (lim mss : Int) : Bool := decide (go? (lst t) t.sh t.c lim mss)
def fiP (t : St) (mss : Int) : Pc := py t.A t.sh t.u t.s mss
def fiG (t : St) (mss : Int) : Bool := decide (go? (lst t) t.sh t.u t.s mss)
def rmI (t : St) : Int := (rm (kept t) t.sh : Int)
def enI (t : St) : Int := en (lst t) t.sh
section
variable {b : Nat} {v : Value} {t : St} {w : World}
theorem q_write (x : ByteArray) (h : OT b v t w) (ok : Ok t) (hA : t.A.size ≤ 4503599627370000) (hx : x.size ≤ maxLen) :
    Calls Try.prog 8 #[.pointer (some ⟨b, 0, none⟩), .string x] w fun e w' => e = .returned (.int .i64 (wN t x : Int)) ∧ (∃ v', OT b v' (wr t x) w') ∧ Kp (b :: rw' v) w w' := by
  refine (write_any x h ok.kk (by unfold lst; omega) (by unfold lst; omega) hx (wN t x) rfl).mono ?_
  rintro e w' ⟨rfl, ⟨v', hq⟩, hk⟩
  refine ⟨rfl, ⟨v', ?_⟩, hk⟩
  have e1 := kept_wr ok x
  have e2 : lst (wr t x) = lst t + (wN t x : Int) := by unfold lst; rw [wr_size]; omega
  show QR b b v' (kept (wr t x)) (lst (wr t x)) t.sh t.u t.c t.s w'
  rw [e1, e2]; exact hq
theorem q_close (h : OT b v t w) : Calls Try.prog 10 #[.pointer (some ⟨b, 0, none⟩)] w fun e w' => e = .returned (.tuple #[]) ∧ OT b v (cl t) w' ∧ Kp [b] w w' := close_any h
theorem q_back (h : OT b v t w) : Calls Try.prog 13 #[.pointer (some ⟨b, 0, none⟩)] w fun e w' => e = .returned (.tuple #[]) ∧ OT b v (bk t) w' ∧ Kp [b] w w' := back_any h
theorem bnds (ok : Ok t) (hA : t.A.size ≤ 4503599627370496) : 0 ≤ lst t ∧ lst t ≤ 4503599627370497 ∧ 0 ≤ t.u ∧ t.u ≤ t.c ∧ t.c ≤ t.s ∧ t.s ≤ 4503599627370498 ∧ 0 ≤ enI t ∧ enI t ≤ 4503599627370498 ∧ t.s ≤ enI t := by
  have := ok.u0; have := ok.uc; have := ok.cs; have := ok.se
  obtain ⟨e0, e1⟩ := en_le (lst t) t.sh
  unfold enI lst at *
  omega
theorem q_next (lim mss : Int) (h : OT b v t w) (ok : Ok t) (hA : t.A.size ≤ 4503599627370496) (m1 : mss ≤ 9223372036854775807) :
    Calls Try.prog 11 #[.pointer (some ⟨b, 0, none⟩), .int .i64 lim, .int .i64 mss] w fun e w' => e = .returned (.tuple #[pvv (nxP t lim mss), .bool (nxG t lim mss)]) ∧ OT b v (nx t lim mss) w' ∧ Kp [b] w w' := by
  obtain ⟨b1, b2, b3, b4, b5, b6, _⟩ := bnds ok hA
  exact next_any lim mss h ok.kk b1 (by omega) (by omega) (by omega) (ok.start _ ok.uc) m1 (nxP t lim mss) (px_py ok _ _ _ ok.uc).symm (nxC t lim mss) rfl (nxG t lim mss) rfl
theorem q_first (mss : Int) (h : OT b v t w) (ok : Ok t) (hA : t.A.size ≤ 4503599627370496) (m1 : mss ≤ 9223372036854775807) :
    Calls Try.prog 14 #[.pointer (some ⟨b, 0, none⟩), .int .i64 mss] w fun e w' => e = .returned (.tuple #[pvv (fiP t mss), .bool (fiG t mss)]) ∧ Below w.heap.size w w' := by
  obtain ⟨b1, b2, b3, b4, b5, b6, _⟩ := bnds ok hA
  exact first_any mss h ok.kk b1 (by omega) b3 (ok.start _ (Int.le_refl _)) m1 (fiP t mss) (px_py ok _ _ _ (Int.le_refl _)).symm (fiG t mss) rfl
theorem q_ack (q : Int) (h : OT b v t w) (ok : Ok t) (hA : t.A.size ≤ 4503599627370496) (q1 : q ≤ 9223372036854775807) :
    Calls Try.prog 16 #[.pointer (some ⟨b, 0, none⟩), .int .i64 q] w fun e w' => e = .returned (.int .i64 (akN t q)) ∧ (∃ v', OT b v' (ak t q) w') ∧ Kp (b :: rw' v) w w' := by
  obtain ⟨b1, b2, b3, b4, b5, b6, _⟩ := bnds ok hA
  unfold akN ak
  by_cases hq : q ≤ t.u ∨ t.s < q
  · rw [if_pos hq, if_pos hq]
    refine (ack_no q h hq).mono ?_
    rintro e w' ⟨rfl, rfl⟩
    exact ⟨rfl, ⟨v, h⟩, Kp.refl _ _⟩
  · rw [if_neg hq, if_neg hq]
    have hs := ok.start q (by omega) (by omega)
    obtain ⟨e0, e1⟩ := en_le (lst t) t.sh
    have hz := kept_size t
    obtain ⟨j, hj⟩ : ∃ j : Nat, (j : Int) = min q (lst t) - (lst t - ((kept t).size : Int)) := ⟨(min q (lst t) - (lst t - ((kept t).size : Int))).toNat, by unfold lst at *; omega⟩
    obtain ⟨hj1, hj2⟩ := kept_ak ok q (by omega) (by omega) j hj
    refine (ack_yes q h ok.kk b1 (by omega) b3 q1 (by omega) (by omega) j hj hj1).mono ?_
    rintro e w' ⟨rfl, ⟨v', hq'⟩, hk⟩
    refine ⟨rfl, ⟨v', ?_⟩, hk⟩
    show QR b b v' (kept ⟨t.A, t.sh, q, max t.c q, t.s⟩) (lst t) t.sh q (max t.c q) t.s w'
    rw [hj2]; exact hq'
theorem q_una (h : OT b v t w) : Calls Try.prog 18 #[.pointer (some ⟨b, 0, none⟩)] w fun e w' => e = .returned (.int .i64 t.u) ∧ w' = w := una_any h
theorem q_cur (h : OT b v t w) : Calls Try.prog 19 #[.pointer (some ⟨b, 0, none⟩)] w fun e w' => e = .returned (.int .i64 t.c) ∧ w' = w := cur_any h
theorem q_sent (h : OT b v t w) : Calls Try.prog 20 #[.pointer (some ⟨b, 0, none⟩)] w fun e w' => e = .returned (.int .i64 t.s) ∧ w' = w := sent_any h
theorem q_end (h : OT b v t w) (hA : t.A.size ≤ 4503599627370496) : Calls Try.prog 21 #[.pointer (some ⟨b, 0, none⟩)] w fun e w' => e = .returned (.int .i64 (enI t)) ∧ w' = w :=
  end_any h (by unfold lst; omega) (by unfold lst; omega) _ rfl
theorem q_room (h : OT b v t w) (ok : Ok t) : Calls Try.prog 23 #[.pointer (some ⟨b, 0, none⟩)] w fun e w' => e = .returned (.int .i64 (rmI t)) ∧ w' = w :=
  room_any h ok.kk _ (by have := ok.kk; unfold rmI rm; cases t.sh <;> simp; omega)

theorem d_write (x : ByteArray) (h : UT b t w) (ok : Ok t) (hA : t.A.size ≤ 4503599627370000) (hx : x.size ≤ maxLen) :
    Calls Try.prog 9 #[.pointer (some ⟨b, 0, none⟩), .string x] w fun e w' => e = .returned (.int .i64 (wN t x : Int)) ∧ UT b (wr t x) w' ∧ Kp [b] w w' := by
  obtain ⟨b1, b2, b3, b4, b5, b6, _⟩ := bnds ok (by omega)
  exact rwrite_any x h b3 (by omega) (by omega) hx (rm (kept t) t.sh) (rm_le _ _) (room_eq ok) (wN t x) rfl
theorem d_next (lim mss : Int) (h : UT b t w) (ok : Ok t) (hA : t.A.size ≤ 4503599627370496) (m1 : mss ≤ 9223372036854775807) :
    Calls Try.prog 12 #[.pointer (some ⟨b, 0, none⟩), .int .i64 lim, .int .i64 mss] w fun e w' => e = .returned (.tuple #[pvv (nxP t lim mss), .bool (nxG t lim mss)]) ∧ UT b (nx t lim mss) w' ∧ Kp [b] w w' := by
  obtain ⟨b1, b2, b3, b4, b5, b6, b7, b8, b9⟩ := bnds ok hA
  obtain ⟨p0, p1, p2⟩ := py_plen t.A t.sh t.c lim mss (by omega) (by unfold enI lst at *; omega)
  exact rnext_any lim mss h hA (by omega) (by omega) m1 (nxP t lim mss) rfl (by unfold nxP; omega) (nxC t lim mss) rfl (nxG t lim mss) rfl
theorem d_first (mss : Int) (h : UT b t w) (ok : Ok t) (hA : t.A.size ≤ 4503599627370496) (m1 : mss ≤ 9223372036854775807) :
    Calls Try.prog 15 #[.pointer (some ⟨b, 0, none⟩), .int .i64 t.u, .int .i64 t.s, .int .i64 mss] w fun e w' => e = .returned (.tuple #[pvv (fiP t mss), .bool (fiG t mss)]) ∧ Below w.heap.size w w' :=
  at_any t.u t.s mss h hA ok.u0 m1 (fiP t mss) rfl (fiG t mss) rfl
theorem d_ack (q : Int) (h : UT b t w) (ok : Ok t) (hA : t.A.size ≤ 4503599627370496) (q0 : -9223372036854775808 ≤ q) (q1 : q ≤ 9223372036854775807) :
    Calls Try.prog 17 #[.pointer (some ⟨b, 0, none⟩), .int .i64 q] w fun e w' => e = .returned (.int .i64 (akN t q)) ∧ UT b (ak t q) w' ∧ Kp [b] w w' := by
  obtain ⟨b1, b2, b3, b4, b5, b6, _⟩ := bnds ok hA
  refine (rack_any q h b3 (by omega) q0 q1).mono ?_
  rintro e w' ⟨rfl, hu, hk⟩
  refine ⟨rfl, ?_, hk⟩
  unfold ak
  split
  · rename_i hq; rw [if_pos hq] at hu; exact hu
  · rename_i hq; rw [if_neg hq] at hu; exact hu
theorem d_end (h : UT b t w) (hA : t.A.size ≤ 4503599627370496) : Calls Try.prog 22 #[.pointer (some ⟨b, 0, none⟩)] w fun e w' => e = .returned (.int .i64 (enI t)) ∧ ∃ m, w' = w.drewN m :=
  rend_any h hA _ rfl
theorem d_room (h : UT b t w) (ok : Ok t) (hA : t.A.size ≤ 4503599627370496) : Calls Try.prog 24 #[.pointer (some ⟨b, 0, none⟩)] w fun e w' => e = .returned (.int .i64 (rmI t)) ∧ ∃ m, w' = w.drewN m := by
  obtain ⟨b1, b2, b3, b4, b5, b6, _⟩ := bnds ok hA
  exact rroom_any h b3 (by omega) hA _ (room_eq ok)
end
end Go.Proofs.Ythkmdonmbdncaaa
