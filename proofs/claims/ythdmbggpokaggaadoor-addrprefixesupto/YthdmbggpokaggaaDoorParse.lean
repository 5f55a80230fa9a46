/-
  Contract of Parse (package addr).
-/
import Derived.Test.YthdmbggpokaggaaDoorStr
namespace Go.Proofs.YthdmbggpokaggaaDoor
open Go.RowKit
set_option linter.unusedVariables false

theorem or_low (a n : Nat) (ha : a < 16777216) (hn : n ≤ 255) : bits BinOp.or IntKind.u32 ((a : Int) * 256) (n : Int) = ((a * 256 + n : Nat) : Int) := by
  have h1 := u32_or_nat (a * 256) n (by omega) (by omega)
  rw [show ((a * 256 : Nat) : Int) = (a : Int) * 256 from by omega] at h1
  rw [h1]
  congr 1
  have := Nat.two_pow_add_eq_or_of_lt (i := 8) (b := n) (by omega) a
  rw [show (2 : Nat) ^ 8 = 256 from rfl, Nat.mul_comm 256 a] at this
  exact this.symm

/-- How Parse ends. -/
def ended (o : Option Nat) : Value := .tuple #[.int .u32 ((o.getD 0 : Nat) : Int), .int .i64 (if o.isSome then 0 else 4)]

set_option maxHeartbeats 4000000 in
theorem parse_any (l : List UInt8) (w : World) (hl : l.length ≤ 281474976710656) :
    Calls Tryd.prog 8 #[.string ⟨l.toArray⟩] w fun e w' => e = .returned (ended (parseL l)) ∧ ∃ n, w' = w.drewN n := by
  have HCt : Hid (∀ (l : List UInt8) w', l.length ≤ 281474976710656 → Calls Tryd.prog 23 #[.string ⟨l.toArray⟩, .string ⟨#[46]⟩] w' fun e w'' => e = .returned (.tuple #[.string ⟨(cutL 46 l).1.toArray⟩, .string ⟨(cutL 46 l).2.1.toArray⟩, .bool (cutL 46 l).2.2]) ∧ ∃ n, w'' = w'.drewN n) := fun l w' h => cuts_any 46 l w' h
  have HNm : Hid (∀ (l : List UInt8) w', l.length ≤ 281474976710656 → Calls Tryd.prog 24 #[.string ⟨l.toArray⟩, .int .u32 255] w' fun e w'' => e = .returned (.tuple #[.int .u32 (((numL 255 l).getD 0 : Nat) : Int), .bool (numL 255 l).isSome]) ∧ w'' = w') := fun l w' h => number_any 255 l w' h (by omega)
  go_enter Tryd.func8, Tryd.ntmps8
  go_wp2
  go_loopw [4, 5, 13] (fun s4 s5 s13 W => ∃ (k a : Nat) (m : List UInt8) (q : Nat), k ≤ 4 ∧ s13 = .int .i64 k ∧ s4 = .int .u32 a ∧ s5 = .string ⟨m.toArray⟩ ∧ m.length ≤ 281474976710656 ∧ a < 256 ^ k ∧ W = w.drewN q ∧ Hid (parseN (4 - k) a m = parseL l)) (fun _ _ i _ => 4 - (intOf i).toNat)
  case atStart => exact ⟨0, 0, l, 0, by omega, rfl, rfl, rfl, hl, by simp, rfl, by show _ = _; rfl⟩
  case round =>
    obtain ⟨k, a, m, q, hk, rfl, rfl, rfl, hml, ha, rfl, HP⟩ := hrel
    have hl2 := cutL_len 46 m
    have hk5 : k = 4 ∨ k < 4 := by omega
    rcases hk5 with rfl | hlt
    · have hp : parseL l = some a := by rw [← HP.out]; rfl
      go_wp2
      go_ret2
      exact ⟨by rw [hp]; rfl, q, rfl⟩
    · have HP2 : Hid (parseL l = if (cutL 46 m).2.2 = decide (0 < 3 - k) then (match numL 255 (cutL 46 m).1 with | none => none | some n => parseN (3 - k) (a * 256 + n) (cutL 46 m).2.1) else none) := by
        show _ = _
        rw [← HP.out, show 4 - k = (3 - k) + 1 from by omega, parseN]
        rfl
      have HNum : Hid (∀ n, numL 255 (cutL 46 m).1 = some n → n ≤ 255) := fun n h => (dec_of_numL h).2
      have HCm := Lib.hid (fun w' => HCt.out m w' hml)
      have HNmm := Lib.hid (fun w' => HNm.out (cutL 46 m).1 w' (by omega))
      generalize cutL 46 m = R at *
      obtain ⟨A, B, d⟩ := R
      simp only at HP2 HNum hl2 HCm HNmm
      have hk4 : k = 0 ∨ k = 1 ∨ k = 2 ∨ k = 3 := by omega
      clear HCt HNm hk HP
      rcases hk4 with rfl | rfl | rfl | rfl <;> cases d
      · have hp : parseL l = none := by rw [HP2.out, if_neg (by decide)]
        clear HP2
        go_wp2_with fail
        refine (HCm.out _).mono ?_; rintro e w1 ⟨rfl, q1, rfl⟩
        go_wp2
        go_ret2
        exact ⟨by rw [hp]; rfl, q + q1, by simp⟩
      · have ha2 : a < 16777216 := by simp at ha; omega
        rcases hx : numL 255 A with _ | n
        · have hp : parseL l = none := by rw [HP2.out, if_pos (by decide), hx]
          rw [hx] at HNmm
          clear hx HP2 HNum
          go_wp2_with fail
          refine (HCm.out _).mono ?_; rintro e w1 ⟨rfl, q1, rfl⟩
          go_wp2_with fail
          refine (HNmm.out _).mono ?_; rintro e w1 ⟨rfl, rfl⟩
          go_wp2
          go_ret2
          exact ⟨by rw [hp]; rfl, q + q1, by simp⟩
        · have hp : parseN 3 (a * 256 + n) B = parseL l := by rw [HP2.out, if_pos (by decide), hx]
          have hn := HNum.out n hx
          rw [hx] at HNmm
          have hor := or_low a n ha2 hn
          have HPp := Lib.hid hp
          have hpw : a * 256 + n < 256 ^ (0 + 1) := by simp at ha ⊢; omega
          clear hx HP2 HNum hp
          go_wp2_with fail
          refine (HCm.out _).mono ?_; rintro e w1 ⟨rfl, q1, rfl⟩
          go_wp2_with fail
          refine (HNmm.out _).mono ?_; rintro e w1 ⟨rfl, rfl⟩
          go_wp2
          go_roundw
          case rel => exact ⟨1, a * 256 + n, B, q + q1, by omega, rfl, rfl, rfl, by omega, hpw, by simp, HPp⟩
          case measure => simp [intOf]
      · have hp : parseL l = none := by rw [HP2.out, if_neg (by decide)]
        clear HP2
        go_wp2_with fail
        refine (HCm.out _).mono ?_; rintro e w1 ⟨rfl, q1, rfl⟩
        go_wp2
        go_ret2
        exact ⟨by rw [hp]; rfl, q + q1, by simp⟩
      · have ha2 : a < 16777216 := by simp at ha; omega
        rcases hx : numL 255 A with _ | n
        · have hp : parseL l = none := by rw [HP2.out, if_pos (by decide), hx]
          rw [hx] at HNmm
          clear hx HP2 HNum
          go_wp2_with fail
          refine (HCm.out _).mono ?_; rintro e w1 ⟨rfl, q1, rfl⟩
          go_wp2_with fail
          refine (HNmm.out _).mono ?_; rintro e w1 ⟨rfl, rfl⟩
          go_wp2
          go_ret2
          exact ⟨by rw [hp]; rfl, q + q1, by simp⟩
        · have hp : parseN 2 (a * 256 + n) B = parseL l := by rw [HP2.out, if_pos (by decide), hx]
          have hn := HNum.out n hx
          rw [hx] at HNmm
          have hor := or_low a n ha2 hn
          have HPp := Lib.hid hp
          have hpw : a * 256 + n < 256 ^ (1 + 1) := by simp at ha ⊢; omega
          clear hx HP2 HNum hp
          go_wp2_with fail
          refine (HCm.out _).mono ?_; rintro e w1 ⟨rfl, q1, rfl⟩
          go_wp2_with fail
          refine (HNmm.out _).mono ?_; rintro e w1 ⟨rfl, rfl⟩
          go_wp2
          go_roundw
          case rel => exact ⟨2, a * 256 + n, B, q + q1, by omega, rfl, rfl, rfl, by omega, hpw, by simp, HPp⟩
          case measure => simp [intOf]
      · have hp : parseL l = none := by rw [HP2.out, if_neg (by decide)]
        clear HP2
        go_wp2_with fail
        refine (HCm.out _).mono ?_; rintro e w1 ⟨rfl, q1, rfl⟩
        go_wp2
        go_ret2
        exact ⟨by rw [hp]; rfl, q + q1, by simp⟩
      · have ha2 : a < 16777216 := by simp at ha; omega
        rcases hx : numL 255 A with _ | n
        · have hp : parseL l = none := by rw [HP2.out, if_pos (by decide), hx]
          rw [hx] at HNmm
          clear hx HP2 HNum
          go_wp2_with fail
          refine (HCm.out _).mono ?_; rintro e w1 ⟨rfl, q1, rfl⟩
          go_wp2_with fail
          refine (HNmm.out _).mono ?_; rintro e w1 ⟨rfl, rfl⟩
          go_wp2
          go_ret2
          exact ⟨by rw [hp]; rfl, q + q1, by simp⟩
        · have hp : parseN 1 (a * 256 + n) B = parseL l := by rw [HP2.out, if_pos (by decide), hx]
          have hn := HNum.out n hx
          rw [hx] at HNmm
          have hor := or_low a n ha2 hn
          have HPp := Lib.hid hp
          have hpw : a * 256 + n < 256 ^ (2 + 1) := by simp at ha ⊢; omega
          clear hx HP2 HNum hp
          go_wp2_with fail
          refine (HCm.out _).mono ?_; rintro e w1 ⟨rfl, q1, rfl⟩
          go_wp2_with fail
          refine (HNmm.out _).mono ?_; rintro e w1 ⟨rfl, rfl⟩
          go_wp2
          go_roundw
          case rel => exact ⟨3, a * 256 + n, B, q + q1, by omega, rfl, rfl, rfl, by omega, hpw, by simp, HPp⟩
          case measure => simp [intOf]
      · have ha2 : a < 16777216 := by simp at ha; omega
        rcases hx : numL 255 A with _ | n
        · have hp : parseL l = none := by rw [HP2.out, if_pos (by decide), hx]
          rw [hx] at HNmm
          clear hx HP2 HNum
          go_wp2_with fail
          refine (HCm.out _).mono ?_; rintro e w1 ⟨rfl, q1, rfl⟩
          go_wp2_with fail
          refine (HNmm.out _).mono ?_; rintro e w1 ⟨rfl, rfl⟩
          go_wp2
          go_ret2
          exact ⟨by rw [hp]; rfl, q + q1, by simp⟩
        · have hp : parseN 0 (a * 256 + n) B = parseL l := by rw [HP2.out, if_pos (by decide), hx]
          have hn := HNum.out n hx
          rw [hx] at HNmm
          have hor := or_low a n ha2 hn
          have HPp := Lib.hid hp
          have hpw : a * 256 + n < 256 ^ (3 + 1) := by simp at ha ⊢; omega
          clear hx HP2 HNum hp
          go_wp2_with fail
          refine (HCm.out _).mono ?_; rintro e w1 ⟨rfl, q1, rfl⟩
          go_wp2_with fail
          refine (HNmm.out _).mono ?_; rintro e w1 ⟨rfl, rfl⟩
          go_wp2
          go_roundw
          case rel => exact ⟨4, a * 256 + n, B, q + q1, by omega, rfl, rfl, rfl, by omega, hpw, by simp, HPp⟩
          case measure => simp [intOf]
      · have hp : parseL l = none := by rw [HP2.out, if_neg (by decide)]
        clear HP2
        go_wp2_with fail
        refine (HCm.out _).mono ?_; rintro e w1 ⟨rfl, q1, rfl⟩
        go_wp2
        go_ret2
        exact ⟨by rw [hp]; rfl, q + q1, by simp⟩
end Go.Proofs.YthdmbggpokaggaaDoor
