/-
  Contracts of piece (in one), Next, First (package outq).
-/
import Derived.Test.YthkmdonmbdncaaaPq
import Derived.Test.YthkmdonmbdncaaaOpen
namespace Go.Proofs.Ythkmdonmbdncaaa
open Go.RowKit
set_option linter.unusedVariables false
set_option linter.unusedSimpArgs false

/-- What goes out from place a on, out of the bytes K that lie ahead of place l. -/
def px (K : ByteArray) (l : Int) (sh : Bool) (a lim mss : Int) : Pc := pz (K.extract (a - (l - (K.size : Int))).toNat (bh l a lim mss - (l - (K.size : Int))).toNat) l sh a lim mss
theorem px_body (K : ByteArray) (l : Int) (sh : Bool) (a lim mss : Int) : (px K l sh a lim mss).body.size ≤ K.size := by
  unfold px pz
  split
  · split
    · show (⟨#[]⟩ : ByteArray).size ≤ _; exact Nat.zero_le _
    · show (K.extract _ _).size ≤ _; simp; omega
  · show (⟨#[]⟩ : ByteArray).size ≤ _; exact Nat.zero_le _
theorem plen_bnd (p : Pc) : (p.body.size : Int) ≤ plen p ∧ plen p ≤ p.body.size + 2 := by
  unfold plen
  cases p.syn <;> cases p.fin <;> simp <;> omega
section
variable {B b : Nat} {v : Value} {K : ByteArray} {l : Int} {sh : Bool} {u c s : Int} {w : World}
theorem piece_any (a lim mss : Int) (h : QR B b v K l sh u c s w) (hK : K.size ≤ 2048) (l0 : 0 ≤ l) (l1 : l ≤ 9007199254740992) (ha0 : 0 ≤ a) (ha : 0 < a → l - (K.size : Int) ≤ a) (m1 : mss ≤ 9223372036854775807) :
    Calls Try.prog 26 #[.pointer (some ⟨b, 0, none⟩), .int .i64 a, .int .i64 lim, .int .i64 mss] w fun e w' => e = .returned (.tuple #[pvv (px K l sh a lim mss), .bool (decide (go? l sh a lim mss))]) ∧ Below w.heap.size w w' := by
  by_cases hg : go? l sh a lim mss
  · rw [decide_eq_true hg]
    unfold px pz
    rw [if_pos hg]
    by_cases h0 : a = 0
    · subst h0
      rw [if_pos rfl]
      exact piece_syn lim mss h l0 l1 hg
    · rw [if_neg h0]
      exact piece_some a lim mss h hK l0 l1 hg (by omega) (ha (by omega)) m1 _ rfl
  · rw [decide_eq_false hg]
    unfold px pz
    rw [if_neg hg]
    exact piece_no a lim mss h l0 l1 hg
end

/-- Next, half way. -/
structure NX (w W : World) (B b : Nat) (v : Value) (K : ByteArray) (l : Int) (sh : Bool) (u c s : Int) (n0 bx : Nat) (p : Pc) : Prop where
  q : QR B b v K l sh u c s W
  p0 : PB n0 pc0 W
  p1 : PB bx p W
  kp : Kp [b] w W
  l0 : b ≠ n0
  l1 : b ≠ bx
  l2 : w.heap.size ≤ n0
section
variable {w W W' : World} {B b : Nat} {v : Value} {K : ByteArray} {l : Int} {sh : Bool} {u c s : Int} {n0 bx : Nat} {p : Pc}
theorem NX.on (h : NX w W B b v K l sh u c s n0 bx p) (hb : Below W.heap.size W W') : NX w W' B b v K l sh u c s n0 bx p := ⟨h.q.keep hb, h.p0.keep hb, h.p1.keep hb, h.kp.then hb, h.l0, h.l1, h.l2⟩
theorem NX.drew (h : NX w W B b v K l sh u c s n0 bx p) : NX w W.drew B b v K l sh u c s n0 bx p := ⟨h.q.drew, h.p0.drew, h.p1.drew, h.kp.drew, h.l0, h.l1, h.l2⟩
theorem PB.set_other {k : Nat} (h : PB k p W) {b : Nat} (hk : b ≠ k) (i : Nat) (x : Value) : PB k p (W.setCell ⟨b, i, none⟩ x) := (Below.heap_setCell _ _ _ _ (fun e => hk e.symm)).trans h
theorem NX.set4 (h : NX w W B b v K l sh u c s n0 bx p) (x : Int) : NX w (W.setCell ⟨b, 4, none⟩ (.int .i64 x)) B b v K l sh u x s n0 bx p :=
  ⟨h.q.set4 x, h.p0.set_other h.l0 _ _, h.p1.set_other h.l1 _ _, h.kp.setCell (Or.inl (by simp)) _, h.l0, h.l1, h.l2⟩
theorem NX.set5 (h : NX w W B b v K l sh u c s n0 bx p) (x : Int) : NX w (W.setCell ⟨b, 5, none⟩ (.int .i64 x)) B b v K l sh u c x n0 bx p :=
  ⟨h.q.set5 x, h.p0.set_other h.l0 _ _, h.p1.set_other h.l1 _ _, h.kp.setCell (Or.inl (by simp)) _, h.l0, h.l1, h.l2⟩
end
section
variable {B b : Nat} {v : Value} {K : ByteArray} {l : Int} {sh : Bool} {u c s : Int} {w : World}
set_option maxHeartbeats 4000000 in
theorem next_any (lim mss : Int) (h : QR B b v K l sh u c s w) (hK : K.size ≤ 2048) (l0 : 0 ≤ l) (l1 : l ≤ 9007199254740992) (c0 : 0 ≤ c) (c1 : c ≤ 9007199254740994) (ha : 0 < c → l - (K.size : Int) ≤ c) (m1 : mss ≤ 9223372036854775807) (p : Pc) (hp : p = px K l sh c lim mss) (n : Int) (hn : n = c + plen p) (g : Bool) (hg : g = decide (go? l sh c lim mss)) :
    Calls Try.prog 11 #[.pointer (some ⟨b, 0, none⟩), .int .i64 lim, .int .i64 mss] w fun e w' => e = .returned (.tuple #[pvv p, .bool g]) ∧ QR B b v K l sh u n (max s n) w' ∧ Kp [b] w w' := by
  have HC : Hid (∀ w', QR B b v K l sh u c s w' → Calls Try.prog 26 #[.pointer (some ⟨b, 0, none⟩), .int .i64 c, .int .i64 lim, .int .i64 mss] w' fun e w'' => e = .returned (.tuple #[pvv p, .bool g]) ∧ Below w'.heap.size w' w'') := fun w' h' => by
    rw [hp, hg]
    exact piece_any c lim mss h' hK l0 l1 c0 ha m1
  have hpb : p.body.size ≤ 2048 := by
    have := px_body K l sh c lim mss
    rw [← hp] at this; omega
  obtain ⟨pl0, pl1⟩ := plen_bnd p
  have HL : Hid (∀ w', Calls Try.prog 27 #[pvv p] w' fun e w'' => e = .returned (.int .i64 (plen p)) ∧ Below w'.heap.size w' w'') := fun w' => length_any p w' (by omega) _ rfl
  have Q1 : Hid (QR B b v K l sh u c s (w.alloc (.cells (pcs pc0) 46))) := h.alloc _
  have P1 : Hid (PB w.heap.size pc0 (w.alloc (.cells (pcs pc0) 46))) := PB.new w pc0
  have K1 : Hid (Kp [b] w (w.alloc (.cells (pcs pc0) 46))) := Kp.ofBelow ((Below.refl _ _).alloc (Nat.le_refl _) _)
  have hb0 : b ≠ w.heap.size := by have := h.lt; omega
  have c4 : (w.alloc (.cells #[.int .i64 0, .bool false, .bool false, .string ⟨#[]⟩] 46)).cell? ⟨b, 4, none⟩ = some (.int .i64 c) := Q1.out.c4
  have HN := Lib.hid hn
  clear h hp hg hn
  generalize plen p = k at *
  have k0 : 0 ≤ k := by omega
  have k1 : k ≤ 2050 := by omega
  have HWr : Hid (IntKind.i64.wrap (c + k) = c + k) := by show _ = _; rw [IntKind.wrap_i64]; omega
  go_enter Try.func11, Try.ntmps11
  go_wp2_with fail
  refine (HC.out _ Q1.out).mono ?_; rintro e w2 ⟨rfl, hb2⟩
  have X3 : Hid (NX w (w2.alloc (.cells (pcs p) 46)) B b v K l sh u c s w.heap.size w2.heap.size p) := ⟨(Q1.out.keep hb2).alloc _, (P1.out.keep hb2).alloc _, PB.new w2 p, (K1.out.then hb2).then ((Below.refl _ _).alloc (Nat.le_refl _) _), hb0, by have := (Q1.out.keep hb2).lt; omega, Nat.le_refl _⟩
  clear Q1 P1 K1 hb2 c4 HC
  go_wp2_with (refine wpList_store_last rfl 46 _ _ rfl w2 _ (pcs p) rfl rfl rfl info46 rfl (pcs_one p) ?_)
  generalize w2.heap.size = bx at *
  generalize w2.alloc (.cells (pcs p) 46) = w3 at *
  have d4 : w3.drew.cell? ⟨b, 4, none⟩ = some (.int .i64 c) := X3.out.drew.q.c4
  have q0 : w3.drew.cell? ⟨bx, 0, none⟩ = some (.int .i64 p.at') := X3.out.drew.p1.c0
  have q1 : w3.drew.cell? ⟨bx, 1, none⟩ = some (.bool p.syn) := X3.out.drew.p1.c1
  have q2 : w3.drew.cell? ⟨bx, 2, none⟩ = some (.bool p.fin) := X3.out.drew.p1.c2
  have q3 : w3.drew.cell? ⟨bx, 3, none⟩ = some (.string p.body) := X3.out.drew.p1.c3
  go_cut [] from 21 to 29 (fun W => NX w W B b v K l sh u n s w.heap.size bx p)
  case first =>
    go_region_with (go_at_call 27; refine (HL.out _).mono ?_; rintro e w4 ⟨rfl, hb4⟩; have X4 := Lib.hid (X3.out.drew.on hb4); have e4 := X4.out.q.c4; have f4 := X4.out.q.free 4; clear hb4)
    all_goals
      try go_wp2_with fail
      go_meet
      rw [HN.out, HWr.out]
      exact X4.out.set4 _
  have X5 := Lib.hid hcut
  clear hcut X3 d4 q0 q1 q2 q3 HL
  have e4 : wc.drew.cell? ⟨b, 4, none⟩ = some (.int .i64 n) := X5.out.q.c4
  have e5 : wc.drew.cell? ⟨b, 5, none⟩ = some (.int .i64 s) := X5.out.q.c5
  have f5 : wc.drew.frozen? ⟨b, 5, none⟩ = false := X5.out.q.free 5
  go_wp2_with fail
  go_cut [] from 30 to 41 (fun W => NX w W B b v K l sh u n (max s n) w.heap.size bx p)
  case first =>
    go_region
    all_goals
      try go_wp2_with fail
      go_meet
      exact X5.out.drew.set5 _
  have X6 := Lib.hid hcut
  clear hcut X5 e4 e5 f5
  have HU := Lib.hid Try.underlying46
  go_wp2_with (first | (refine wpList_load_mid rfl _ _ rfl _ _ rfl (pcl p) _ X6.out.p1.range HU.out rfl info46 ?_) | (refine wpList_store_mid rfl _ _ _ rfl _ _ (pcs p) rfl rfl X6.out.p0.there info46 (pcs_one _) ?_))
  exact bodyPost_ret (v := .tuple #[pvv p, .bool g]) (by simp [results, Try.results11, Act.put, asAddr, told _ w.heap.size pc0 p X6.out.p0]) rfl ⟨rfl, X6.out.q.kp (bs := [w.heap.size]) ((Kp.refl _ _).setCells (Or.inl (by simp)) _ _) (by simpa using hb0) (fun g hg hm => X6.out.q.row_ne X6.out.p0 (by decide) (by rw [hg]; simpa using hm)), X6.out.kp.setCells (Or.inr (Nat.le_refl _)) _ _⟩
set_option maxHeartbeats 4000000 in
theorem first_any (mss : Int) (h : QR B b v K l sh u c s w) (hK : K.size ≤ 2048) (l0 : 0 ≤ l) (l1 : l ≤ 9007199254740992) (u0 : 0 ≤ u) (ha : 0 < u → l - (K.size : Int) ≤ u) (m1 : mss ≤ 9223372036854775807) (p : Pc) (hp : p = px K l sh u s mss) (g : Bool) (hg : g = decide (go? l sh u s mss)) :
    Calls Try.prog 14 #[.pointer (some ⟨b, 0, none⟩), .int .i64 mss] w fun e w' => e = .returned (.tuple #[pvv p, .bool g]) ∧ Below w.heap.size w w' := by
  have HC : Hid (∀ w', QR B b v K l sh u c s w' → Calls Try.prog 26 #[.pointer (some ⟨b, 0, none⟩), .int .i64 u, .int .i64 s, .int .i64 mss] w' fun e w'' => e = .returned (.tuple #[pvv p, .bool g]) ∧ Below w'.heap.size w' w'') := fun w' h' => by
    rw [hp, hg]
    exact piece_any u s mss h' hK l0 l1 u0 ha m1
  have P1 : Hid (PB w.heap.size pc0 (w.alloc (.cells (pcs pc0) 46)).drew) := PB.new w pc0
  have b1 : Below w.heap.size w (w.alloc (.cells (pcs pc0) 46)).drew := ((Below.refl _ _).alloc (Nat.le_refl _) _).drew
  have Q1 : Hid (QR B b v K l sh u c s (w.alloc (.cells (pcs pc0) 46)).drew) := (h.alloc _).drew
  have c3 : (w.alloc (.cells #[.int .i64 0, .bool false, .bool false, .string ⟨#[]⟩] 46)).drew.cell? ⟨b, 3, none⟩ = some (.int .i64 u) := Q1.out.c3
  have c5 : (w.alloc (.cells #[.int .i64 0, .bool false, .bool false, .string ⟨#[]⟩] 46)).drew.cell? ⟨b, 5, none⟩ = some (.int .i64 s) := Q1.out.c5
  clear h hp hg
  go_enter Try.func14, Try.ntmps14
  go_wp2_with fail
  go_region_with (go_at_call 26; refine (HC.out _ Q1.out).mono ?_; rintro e w4 ⟨rfl, hb4⟩; have P4 := Lib.hid (P1.out.keep hb4); have b4 := b1.trans (hb4.mono b1.size); have e0 := P4.out.c0; have e1 := P4.out.c1; have e2 := P4.out.c2; have e3 := P4.out.c3; have f0 := P4.out.free 0; have f1 := P4.out.free 1; have f2 := P4.out.free 2; have f3 := P4.out.free 3; clear hb4)
  all_goals
    go_wp2_with fail
    have T4 := told w4 w.heap.size pc0 p P4.out
    simp only [World.setCells] at T4
    exact bodyPost_ret (v := .tuple #[pvv p, .bool g]) (by simp [results, Try.results14, Act.put, asAddr, T4]) rfl ⟨rfl, below_setCells (vs := pcl p) (o := 0) b4 (Nat.le_refl _)⟩
end
end Go.Proofs.Ythkmdonmbdncaaa
