/-
  Contracts of text, length, piece (package outq).
-/
import Derived.Test.YthkmdonmbdncaaaGt
namespace Go.Proofs.Ythkmdonmbdncaaa
open Go.RowKit
set_option linter.unusedVariables false
set_option linter.unusedSimpArgs false

section
variable {B b : Nat} {v : Value} {K : ByteArray} {l : Int} {sh : Bool} {u c s : Int} {w : World}
set_option maxHeartbeats 1000000 in
theorem text_any (a z : Int) (h : QR B b v K l sh u c s w) (hK : K.size ≤ 2048) (l0 : 0 ≤ l) (l1 : l ≤ 9007199254740992) (ha : l - (K.size : Int) ≤ a) (hz : a ≤ z) (hzl : z ≤ l) :
    Calls Try.prog 32 #[.pointer (some ⟨b, 0, none⟩), .int .i64 a, .int .i64 z] w fun e w' => e = .returned (.string (K.extract (a - (l - (K.size : Int))).toNat (z - (l - (K.size : Int))).toNat)) ∧ ∃ m, w' = w.drewN m := by
  obtain ⟨o, cap, rfl⟩ := h.shape
  have HS : Hid (∀ n, Calls Try.prog 34 #[.pointer (some ⟨b, 0, none⟩)] (w.drewN n) fun e w'' => e = .returned (.int .i64 (l - (K.size : Int))) ∧ ∃ m, w'' = (w.drewN n).drewN m) := fun n => start_any (h.drewN n) hK l0 l1 _ rfl
  obtain ⟨S, hsl0, hcv⟩ := sub_row h.own (a - (l - (K.size : Int))).toNat (z - (l - (K.size : Int))).toNat (by omega) (by omega)
  have hsl : ∀ w', (Instr.slice 57 (.slice o K.size cap) (some (.int .i64 (a - (l - (K.size : Int))))) (some (.int .i64 (z - (l - (K.size : Int))))) none).run Try.prog w' = .ok S w' := by
    intro w'
    have := hsl0 w'
    rwa [Int.toNat_of_nonneg (by omega), Int.toNat_of_nonneg (by omega)] at this
  have c0 := h.c0
  clear h hsl0
  generalize K.extract (a - (l - (K.size : Int))).toNat (z - (l - (K.size : Int))).toNat = T at *
  go_enter Try.func32, Try.ntmps32
  go_wp2_with fail
  go_quiet ((go_at_call 34; exact Calls.quiet_of (HS.out _)))
  go_wp2_with fail
  go_ret
  exact ⟨rfl, _, rfl⟩
end

/-- How many places a piece has. -/
def plen (p : Pc) : Int := (p.body.size : Int) + (if p.syn = true then 1 else 0) + (if p.fin = true then 1 else 0)
theorem length_any (p : Pc) (w : World) (hp : p.body.size ≤ 4503599627370496) (n : Int) (hn : n = plen p) :
    Calls Try.prog 27 #[pvv p] w fun e w' => e = .returned (.int .i64 n) ∧ Below w.heap.size w w' := by
  obtain ⟨at', syn, fin, body⟩ := p
  have hp : body.size ≤ 4503599627370496 := hp
  have b0 : Below w.heap.size w (w.alloc (.cells (pcs ⟨at', syn, fin, body⟩) 46)) := (Below.refl _ _).alloc (Nat.le_refl _) _
  cases syn <;> cases fin
  · obtain rfl : n = body.size := by rw [hn]; simp [plen]
    clear hn
    go_enter Try.func27, Try.ntmps27
    go_wp2
    go_ret
    exact ⟨rfl, b0⟩
  · obtain rfl : n = body.size + 1 := by rw [hn]; simp [plen]
    clear hn
    go_enter Try.func27, Try.ntmps27
    go_wp2
    go_ret
    exact ⟨rfl, b0⟩
  · obtain rfl : n = body.size + 1 := by rw [hn]; simp [plen]
    clear hn
    go_enter Try.func27, Try.ntmps27
    go_wp2
    go_ret
    exact ⟨rfl, b0⟩
  · obtain rfl : n = body.size + 1 + 1 := by rw [hn]; simp [plen]
    clear hn
    go_enter Try.func27, Try.ntmps27
    go_wp2
    go_ret
    exact ⟨rfl, b0⟩

/-- The place behind a piece's bytes. -/
def bh (l a lim mss : Int) : Int := a + min mss (min lim l - a)
/-- How many places there are. -/
def en (l : Int) (sh : Bool) : Int := l + if sh = true then 1 else 0
/-- Whether something goes out from place a on. -/
abbrev go? (l : Int) (sh : Bool) (a lim mss : Int) : Prop := a < min lim (en l sh) ∧ 1 ≤ mss
/-- What goes out from place a on: T are the bytes. -/
def pz (T : ByteArray) (l : Int) (sh : Bool) (a lim mss : Int) : Pc :=
  if go? l sh a lim mss then if a = 0 then ⟨0, true, false, ⟨#[]⟩⟩ else ⟨a, false, sh && decide (bh l a lim mss = l) && decide (bh l a lim mss < lim), T⟩ else pc0

section
variable {B b : Nat} {v : Value} {K : ByteArray} {l : Int} {sh : Bool} {u c s : Int} {w : World}
set_option maxHeartbeats 1000000 in
theorem piece_no (a lim mss : Int) (h : QR B b v K l sh u c s w) (l0 : 0 ≤ l) (l1 : l ≤ 9007199254740992) (hg : ¬ go? l sh a lim mss) :
    Calls Try.prog 26 #[.pointer (some ⟨b, 0, none⟩), .int .i64 a, .int .i64 lim, .int .i64 mss] w fun e w' => e = .returned (.tuple #[pvv pc0, .bool false]) ∧ Below w.heap.size w w' := by
  have HE : Hid (∀ w', QR B b v K l sh u c s w' → Calls Try.prog 21 #[.pointer (some ⟨b, 0, none⟩)] w' fun e w'' => e = .returned (.int .i64 (en l sh)) ∧ w'' = w') := fun w' h' => end_any h' l0 l1 _ rfl
  have b0 : Below w.heap.size w (w.alloc (.cells (pcs pc0) 46)) := (Below.refl _ _).alloc (Nat.le_refl _) _
  have P0 : Hid (PB w.heap.size pc0 (w.alloc (.cells (pcs pc0) 46))) := PB.new w pc0
  have Q0 : Hid (QR B b v K l sh u c s (w.alloc (.cells (pcs pc0) 46))) := h.alloc _
  replace hg : min lim (en l sh) ≤ a ∨ mss < 1 := by omega
  clear h
  generalize en l sh = E at *
  by_cases h1 : min lim E ≤ a
  · clear hg
    go_enter Try.func26, Try.ntmps26
    go_wp2_with fail
    refine (HE.out _ Q0.out).mono ?_; rintro e w1 ⟨rfl, rfl⟩
    go_wp2_with (refine wpList_store_mid rfl _ _ _ rfl _ _ (pcs pc0) rfl rfl P0.out.there info46 (pcs_one pc0) ?_)
    exact bodyPost_ret (v := .tuple #[pvv pc0, .bool false]) (by simp [results, Try.results26, Act.put, asAddr, told _ w.heap.size pc0 pc0 P0.out]) rfl ⟨rfl, below_setCells b0 (Nat.le_refl _) _ _⟩
  · have h2 : mss < 1 := by omega
    clear hg
    go_enter Try.func26, Try.ntmps26
    go_wp2_with fail
    refine (HE.out _ Q0.out).mono ?_; rintro e w1 ⟨rfl, rfl⟩
    go_wp2_with (refine wpList_store_mid rfl _ _ _ rfl _ _ (pcs pc0) rfl rfl P0.out.there info46 (pcs_one pc0) ?_)
    exact bodyPost_ret (v := .tuple #[pvv pc0, .bool false]) (by simp [results, Try.results26, Act.put, asAddr, told _ w.heap.size pc0 pc0 P0.out]) rfl ⟨rfl, below_setCells b0 (Nat.le_refl _) _ _⟩
set_option maxHeartbeats 1000000 in
theorem piece_syn (lim mss : Int) (h : QR B b v K l sh u c s w) (l0 : 0 ≤ l) (l1 : l ≤ 9007199254740992) (hg : go? l sh 0 lim mss) :
    Calls Try.prog 26 #[.pointer (some ⟨b, 0, none⟩), .int .i64 0, .int .i64 lim, .int .i64 mss] w fun e w' => e = .returned (.tuple #[pvv ⟨0, true, false, ⟨#[]⟩⟩, .bool true]) ∧ Below w.heap.size w w' := by
  have HE : Hid (∀ w', QR B b v K l sh u c s w' → Calls Try.prog 21 #[.pointer (some ⟨b, 0, none⟩)] w' fun e w'' => e = .returned (.int .i64 (en l sh)) ∧ w'' = w') := fun w' h' => end_any h' l0 l1 _ rfl
  have b0 : Below w.heap.size w (w.alloc (.cells (pcs pc0) 46)) := (Below.refl _ _).alloc (Nat.le_refl _) _
  have P0 : Hid (PB w.heap.size pc0 (w.alloc (.cells (pcs pc0) 46))) := PB.new w pc0
  have Q0 : Hid (QR B b v K l sh u c s (w.alloc (.cells (pcs pc0) 46))) := h.alloc _
  obtain ⟨h1, h2⟩ := hg
  clear h
  generalize en l sh = E at *
  have h3 : ¬ min lim E ≤ 0 := by omega
  have h4 : ¬ mss < 1 := by omega
  go_enter Try.func26, Try.ntmps26
  go_wp2_with fail
  refine (HE.out _ Q0.out).mono ?_; rintro e w1 ⟨rfl, rfl⟩
  go_wp2_with (refine wpList_store_mid rfl _ _ _ rfl _ _ (pcs ⟨0, true, false, ⟨#[]⟩⟩) rfl rfl P0.out.there info46 (pcs_one _) ?_)
  exact bodyPost_ret (v := .tuple #[pvv ⟨0, true, false, ⟨#[]⟩⟩, .bool true]) (by simp [results, Try.results26, Act.put, asAddr, told _ w.heap.size pc0 ⟨0, true, false, ⟨#[]⟩⟩ P0.out]) rfl ⟨rfl, below_setCells b0 (Nat.le_refl _) _ _⟩
set_option maxHeartbeats 4000000 in
theorem piece_some (a lim mss : Int) (h : QR B b v K l sh u c s w) (hK : K.size ≤ 2048) (l0 : 0 ≤ l) (l1 : l ≤ 9007199254740992) (hg : go? l sh a lim mss) (ha0 : 0 < a) (ha : l - (K.size : Int) ≤ a) (m1 : mss ≤ 9223372036854775807) (p : Pc) (hp : p = ⟨a, false, sh && decide (bh l a lim mss = l) && decide (bh l a lim mss < lim), K.extract (a - (l - (K.size : Int))).toNat (bh l a lim mss - (l - (K.size : Int))).toNat⟩) :
    Calls Try.prog 26 #[.pointer (some ⟨b, 0, none⟩), .int .i64 a, .int .i64 lim, .int .i64 mss] w fun e w' => e = .returned (.tuple #[pvv p, .bool true]) ∧ Below w.heap.size w w' := by
  have HE : Hid (∀ w', QR B b v K l sh u c s w' → Calls Try.prog 21 #[.pointer (some ⟨b, 0, none⟩)] w' fun e w'' => e = .returned (.int .i64 (en l sh)) ∧ w'' = w') := fun w' h' => end_any h' l0 l1 _ rfl
  have b0 : Below w.heap.size w (w.alloc (.cells (pcs pc0) 46)) := (Below.refl _ _).alloc (Nat.le_refl _) _
  have P0 : Hid (PB w.heap.size pc0 (w.alloc (.cells (pcs pc0) 46))) := PB.new w pc0
  have Q0 : Hid (QR B b v K l sh u c s (w.alloc (.cells (pcs pc0) 46))) := h.alloc _
  obtain ⟨h1, h2⟩ := hg
  have hE : en l sh ≤ l + 1 := by unfold en; split <;> omega
  obtain ⟨z, hz⟩ : ∃ z, z = bh l a lim mss := ⟨_, rfl⟩
  have hz' : z = a + min mss (min lim l - a) := hz
  rw [← hz] at hp
  have hza : a ≤ z := by omega
  have hzl : z ≤ l := by omega
  have HT : Hid (∀ q w', q = z → QR B b v K l sh u c s w' → Calls Try.prog 32 #[.pointer (some ⟨b, 0, none⟩), .int .i64 a, .int .i64 q] w' fun e w'' => e = .returned (.string (K.extract (a - (l - (K.size : Int))).toNat (z - (l - (K.size : Int))).toNat)) ∧ ∃ m, w'' = w'.drewN m) := fun q w' hq h' => by
    subst hq
    exact text_any a q h' hK l0 l1 ha hza hzl
  have HP : Hid (∀ F, F = (sh && decide (z = l) && decide (z < lim)) → p = ⟨a, false, F, K.extract (a - (l - (K.size : Int))).toNat (z - (l - (K.size : Int))).toNat⟩) := fun F hF => by rw [hp, hF]
  have HZ : Hid (a + min mss (min lim l - a) = z) := hz'.symm
  have c1 := Q0.out.c1
  have c2 := Q0.out.c2
  generalize K.extract (a - (l - (K.size : Int))).toNat (z - (l - (K.size : Int))).toNat = T at *
  clear h hz hz' hp
  generalize en l sh = E at *
  have h3 : ¬ min lim E ≤ a := by omega
  have h4 : ¬ mss < 1 := by omega
  have h5 : (a == 0) = false := by simp; omega
  go_enter Try.func26, Try.ntmps26
  go_wp2_with fail
  refine (HE.out _ Q0.out).mono ?_; rintro e w1 ⟨rfl, rfl⟩
  go_wp2_with fail
  · refine (HT.out _ _ (by rw [← HZ.out]; symm; assumption) Q0.out).mono ?_; rintro e w1 ⟨rfl, m, hw1⟩
    have P1 : Hid (PB w.heap.size pc0 w1) := by show PB w.heap.size pc0 w1; rw [hw1]; exact P0.out.drewN m
    have b1 : Below w.heap.size w w1 := by rw [hw1]; exact b0.trans ((below_drewN _ m).mono (by simp))
    clear hw1 b0 P0 Q0 HT
    have HF := Lib.hid (HP.out (decide (l < lim)) (by rw [show z = l from by rw [← HZ.out]; assumption]; simp [*]))
    clear HP
    go_wp2_with (refine wpList_store_mid rfl _ _ _ rfl _ _ (pcs ⟨a, false, (decide (l < lim)), T⟩) rfl rfl P1.out.there info46 (pcs_one _) ?_)
    exact bodyPost_ret (v := .tuple #[pvv ⟨a, false, (decide (l < lim)), T⟩, .bool true]) (by simp [results, Try.results26, Act.put, asAddr, told _ w.heap.size pc0 ⟨a, false, (decide (l < lim)), T⟩ P1.out]) rfl ⟨by rw [HF.out], below_setCells b1 (Nat.le_refl _) _ _⟩
  · refine (HT.out _ _ (by rw [← HZ.out]) Q0.out).mono ?_; rintro e w1 ⟨rfl, m, hw1⟩
    have P1 : Hid (PB w.heap.size pc0 w1) := by show PB w.heap.size pc0 w1; rw [hw1]; exact P0.out.drewN m
    have b1 : Below w.heap.size w w1 := by rw [hw1]; exact b0.trans ((below_drewN _ m).mono (by simp))
    clear hw1 b0 P0 Q0 HT
    have HF := Lib.hid (HP.out false (by rw [decide_eq_false (show ¬ z = l from by rw [← HZ.out]; assumption)]; simp))
    clear HP
    go_wp2_with (refine wpList_store_mid rfl _ _ _ rfl _ _ (pcs ⟨a, false, false, T⟩) rfl rfl P1.out.there info46 (pcs_one _) ?_)
    exact bodyPost_ret (v := .tuple #[pvv ⟨a, false, false, T⟩, .bool true]) (by simp [results, Try.results26, Act.put, asAddr, told _ w.heap.size pc0 ⟨a, false, false, T⟩ P1.out]) rfl ⟨by rw [HF.out], below_setCells b1 (Nat.le_refl _) _ _⟩
  · refine (HT.out _ _ (by rw [← HZ.out]) Q0.out).mono ?_; rintro e w1 ⟨rfl, m, hw1⟩
    have P1 : Hid (PB w.heap.size pc0 w1) := by show PB w.heap.size pc0 w1; rw [hw1]; exact P0.out.drewN m
    have b1 : Below w.heap.size w w1 := by rw [hw1]; exact b0.trans ((below_drewN _ m).mono (by simp))
    clear hw1 b0 P0 Q0 HT
    have HF := Lib.hid (HP.out false (by simp [*]))
    clear HP
    go_wp2_with (refine wpList_store_mid rfl _ _ _ rfl _ _ (pcs ⟨a, false, false, T⟩) rfl rfl P1.out.there info46 (pcs_one _) ?_)
    exact bodyPost_ret (v := .tuple #[pvv ⟨a, false, false, T⟩, .bool true]) (by simp [results, Try.results26, Act.put, asAddr, told _ w.heap.size pc0 ⟨a, false, false, T⟩ P1.out]) rfl ⟨by rw [HF.out], below_setCells b1 (Nat.le_refl _) _ _⟩
end
end Go.Proofs.Ythkmdonmbdncaaa
