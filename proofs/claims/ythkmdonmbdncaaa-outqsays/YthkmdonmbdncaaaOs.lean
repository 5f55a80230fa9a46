/-
  The walk of OutqSays: the queue and the document's own queue over one memory.
-/
import Derived.Test.YthkmdonmbdncaaaTq
import Derived.Deep.CutBlock
namespace Go.Proofs.Ythkmdonmbdncaaa
open Go.RowKit
set_option linter.unusedVariables false
set_option linter.unusedSimpArgs false

/-- Both queues, new since w. -/
structure Two (w W : World) (b ub : Nat) (v : Value) (t u : St) : Prop where
  own : OT b v t W
  doc : UT ub u W
  ok : Ok t
  dok : Ok u
  be : Below w.heap.size w W
  lo : w.heap.size ≤ b
  ulo : w.heap.size ≤ ub
  ne : b ≠ ub
section
variable {w W W' : World} {b ub : Nat} {v v' : Value} {t t' u : St}
theorem Two.on (h : Two w W b ub v t u) (hb : Below W.heap.size W W') : Two w W' b ub v t u := ⟨h.own.keep hb, h.doc.keep hb, h.ok, h.dok, h.be.trans (hb.mono h.be.size), h.lo, h.ulo, h.ne⟩
theorem Two.drewN (h : Two w W b ub v t u) (n : Nat) : Two w (W.drewN n) b ub v t u := h.on (below_drewN W n)
theorem Two.drew (h : Two w W b ub v t u) : Two w W.drew b ub v t u := h.on ((Below.refl _ _).drew)
theorem Two.alloc (h : Two w W b ub v t u) (o : Obj) : Two w (W.alloc o) b ub v t u := h.on ((Below.refl _ _).alloc (Nat.le_refl _) _)
theorem Two.low (h : Two w W b ub v t u) : ∀ k ∈ b :: rw' v, w.heap.size ≤ k := by
  intro k hk
  rcases List.mem_cons.1 hk with e | e
  · rw [e]; exact h.lo
  · unfold rw' at e
    have := (h.own.own.lt k (by simpa using e)).1
    exact Nat.le_trans h.lo this
theorem Two.put (h : Two w W b ub v t u) (ht : OT b v' t' W') (ok : Ok t') (hk : Kp (b :: rw' v) W W') : Two w W' b ub v' t' u :=
  ⟨ht, h.doc.kp hk (h.own.not_mem h.doc (by decide) (fun e => h.ne e.symm)), ok, h.dok, h.be.trans (hk.below h.be.size h.low), h.lo, h.ulo, h.ne⟩
theorem Two.put1 (h : Two w W b ub v t u) (ht : OT b v t' W') (ok : Ok t') (hk : Kp [b] W W') : Two w W' b ub v t' u := h.put ht ok (hk.mono (by simp))
theorem Two.dput (h : Two w W b ub v t u) (ht : UT ub t' W') (ok : Ok t') (hk : Kp [ub] W W') : Two w W' b ub v t t' :=
  ⟨h.own.kp hk (by simpa using h.ne) (fun g hg hm => h.own.row_ne h.doc (by decide) (by rw [hg]; simpa using hm)), ht, h.ok, ok, h.be.trans (hk.below h.be.size (fun k hm => by have := h.ulo; simp at hm; omega)), h.lo, h.ulo, h.ne⟩
/-- A block of another kind is written. -/
theorem Two.far (h : Two w W b ub v t u) {nb : Nat} {p : Pc} (hp : PB nb p W) (hl : w.heap.size ≤ nb) (hk : Kp [nb] W W') : Two w W' b ub v t u := by
  have n1 : b ≠ nb := fun e => by have a := h.own.blk; rw [e, hp] at a; injection a with a; injection a with _ a; exact absurd a (by decide)
  have n2 : ub ≠ nb := fun e => by have a := h.doc; unfold UT UR at a; rw [e, hp] at a; injection a with a; injection a with _ a; exact absurd a (by decide)
  exact ⟨h.own.kp hk (by simpa using n1) (fun g hg hm => h.own.row_ne hp (by decide) (by rw [hg]; simpa using hm)), h.doc.kp hk (by simpa using n2), h.ok, h.dok, h.be.trans (hk.below h.be.size (fun k hm => by simp at hm; omega)), h.lo, h.ulo, h.ne⟩
theorem SB.kq {bx : Nat} {cs : List Value} (hs : SB bx cs W) (h : Two w W b ub v t u) (hk : Kp (b :: rw' v) W W') : SB bx cs W' :=
  (hk.block _ hs.lt (h.own.not_mem hs (by decide) (fun e => by have a := h.own.blk; rw [← e, hs] at a; injection a with a; injection a with _ a; exact absurd a (by decide)))).trans hs
theorem SB.ku {bx : Nat} {cs : List Value} (hs : SB bx cs W) (h : Two w W b ub v t u) (hk : Kp [ub] W W') : SB bx cs W' :=
  (hk.block _ hs.lt (fun e => by have a := h.doc; unfold UT UR at a; rw [← List.mem_singleton.1 e, hs] at a; injection a with a; injection a with _ a; exact absurd a (by decide))).trans hs
theorem PB.kq {bx : Nat} {p : Pc} (hs : PB bx p W) (h : Two w W b ub v t u) (hk : Kp (b :: rw' v) W W') : PB bx p W' :=
  hs.kp hk (h.own.not_mem hs (by decide) (fun e => by have a := h.own.blk; rw [← e, hs] at a; injection a with a; injection a with _ a; exact absurd a (by decide)))
theorem PB.ku {bx : Nat} {p : Pc} (hs : PB bx p W) (h : Two w W b ub v t u) (hk : Kp [ub] W W') : PB bx p W' :=
  hs.kp hk (fun e => by have a := h.doc; unfold UT UR at a; rw [← List.mem_singleton.1 e, hs] at a; injection a with a; injection a with _ a; exact absurd a (by decide))
end
theorem ak_A (t : St) (q : Int) : (ak t q).A = t.A := by unfold ak; split <;> rfl

set_option maxHeartbeats 16000000 in
set_option maxRecDepth 100000 in
theorem says_walk (o : Option Addr) (b off len cap : Nat) (C : Nat → List Value) (S : Nat → Stp) (w : World) (hb : 0 < len → o = some ⟨b, off, none⟩ ∧ b < w.heap.size) (hS : StepsAt w b off len C S) (hlen : len * 256 ≤ 140737488355328) :
    Calls Try.prog 3 #[.slice o len cap] w fun e w' => e = .returned (.bool true) ∧ Below w.heap.size w w' := by
  have HN : Hid (∀ w', Calls Try.prog 6 #[] w' fun e w'' => e = .returned (.pointer (some ⟨w'.heap.size, 0, none⟩)) ∧ QR w'.heap.size w'.heap.size (.slice none 0 0) ⟨#[]⟩ 1 false 0 0 0 w'' ∧ Below w'.heap.size w' w'') := new_any
  have HS0 := Lib.hid hS
  have HB0 := Lib.hid hb
  clear hb hS
  go_enter Try.func3, Try.ntmps3
  go_wp2_with fail
  refine (HN.out _).mono ?_; rintro e w1 ⟨rfl, hT1, hb1⟩
  have L2 : Hid (Two w (w1.alloc (.cells #[.string ⟨#[]⟩, .bool false, .int .i64 0, .int .i64 0, .int .i64 0] 27)) w.heap.size w1.heap.size (.slice none 0 0) st0 st0) := by
    have e1 : kept st0 = ⟨#[]⟩ := ext_none _ _
    have hq : OT w.heap.size (.slice none 0 0) st0 w1 := by
      show QR _ _ _ (kept st0) (lst st0) _ _ _ _ _
      rw [e1]; exact hT1
    exact ⟨hq.alloc _, heap_alloc_new w1 _, st0_ok, st0_ok, hb1.alloc hb1.size _, Nat.le_refl _, hb1.size, by have := hT1.lt; omega⟩
  clear hT1 hb1
  go_wp2_with fail
  generalize w1.heap.size = ub at *
  go_loopw [23] (fun i W => ∃ (k : Nat) (v : Value) (t : St), k ≤ len ∧ i = .int .i64 k ∧ t.A.size ≤ 2048 * k ∧ Two w W w.heap.size ub v t t) (fun i _ => len - (intOf i).toNat)
  case atStart => exact ⟨0, _, st0, Nat.zero_le _, rfl, by decide, L2.out⟩
  case round =>
    obtain ⟨k, v, t, hk, rfl, hA, hO⟩ := hrel
    have L := Lib.hid hO
    clear hO L2
    by_cases hlt : k < len
    · obtain ⟨ho, hbb⟩ := HB0.out (by omega)
      subst ho
      obtain ⟨hr', hcs⟩ := HS0.out k hlt
      have F := Lib.hid (step_f HS0.out hlt hbb L.out.be)
      have HOf : Hid (∀ w', Calls Try.prog 7 #[.agg (C k).toArray, .int .i64 8] w' fun e w'' => e = .returned (.int .i64 ((S k).kind % 8)) ∧ Below w'.heap.size w' w'') := fun w' => of_any (C k) (S k) 8 w' hcs (by omega) (by omega)
      have HC1 : Hid (∀ g W, SB g (C k) W → W.cell? ⟨g, 1, none⟩ = some (.int .i64 (S k).num) ∧ W.cell? ⟨g, 2, none⟩ = some (.int .i64 (S k).num2) ∧ W.cell? ⟨g, 4, none⟩ = some (.string (S k).txt)) := fun g W h => ⟨h.c1 hcs, h.c2 hcs, h.c4 hcs⟩
      have L4 := Lib.hid (L.out.alloc (.cells (C k).toArray 42))
      have B4 := Lib.hid F.out.blk
      have hkd0 := Int.emod_nonneg (S k).kind (show (8 : Int) ≠ 0 by omega)
      have hkd1 := Int.emod_lt_of_pos (S k).kind (show (0 : Int) < 8 by omega)
      have hn1 := hcs.n1
      have hn2 := hcs.n2
      have hp1 := hcs.p1
      have hp2 := hcs.p2
      have hxz := hcs.z
      have hA1 : t.A.size ≤ 4503599627370000 := by omega
      have hA2 : t.A.size ≤ 4503599627370496 := by omega
      clear hcs hr' hbb L
      generalize C k = cs at *
      generalize (S k).num = num at *
      generalize (S k).num2 = mss at *
      generalize (S k).txt = x at *
      generalize (S k).kind % 8 = kd at *
      go_upto_block 2 with (first | (refine wpList_load_mid rfl 42 _ rfl b (off + k * 45) rfl cs _ F.out.rr Try.underlying42 rfl F.out.hi ?_) | (refine wpList_store_last rfl 42 _ _ rfl wr _ cs.toArray rfl rfl rfl F.out.hi' F.out.h45 F.out.one ?_) | (refine wpList_load_mid rfl 42 _ rfl wr.heap.size 0 rfl cs _ B4.out.range Try.underlying42 rfl F.out.hi ?_) | (go_at_call 7; refine (HOf.out _).mono ?_; rintro e w5 ⟨rfl, hb5⟩))
      have L5 := Lib.hid (L4.out.on hb5)
      have B5 := Lib.hid (B4.out.keep hb5)
      clear L4 B4 hb5 F HOf
      generalize wr.heap.size = bx at *
      obtain ⟨c1, c2, c4⟩ := HC1.out _ _ B5.out
      go_cut [7, 8, 9, 10, 11, 12, 13, 14, 15] from 29 to 130 (fun g _ _ _ _ _ _ _ _ W => g = .bool true ∧ ∃ (v' : Value) (t' : St), t'.A.size ≤ 2048 * (k + 1) ∧ Two w W w.heap.size ub v' t' t')
      case first =>
        have hkk : kd = 0 ∨ kd = 1 ∨ kd = 2 ∨ kd = 3 ∨ kd = 4 ∨ kd = 5 ∨ kd = 6 ∨ kd = 7 := by omega
        rcases hkk with rfl | rfl | rfl | rfl | rfl | rfl | rfl | rfl
        · have HW : Hid (∀ W, Two w W w.heap.size ub v t t → SB bx cs W → Calls Try.prog 8 #[.pointer (some ⟨w.heap.size, 0, none⟩), .string x] W fun e W' => e = .returned (.int .i64 (wN t x : Int)) ∧ (∃ v', Two w W' w.heap.size ub v' (Go.Proofs.Ythkmdonmbdncaaa.wr t x) t) ∧ SB bx cs W') := fun W h hs => (q_write x h.own h.ok hA1 hxz).mono fun e W' h' => ⟨h'.1, by obtain ⟨v', hv⟩ := h'.2.1; exact ⟨v', h.put hv (h.ok.wr x) h'.2.2⟩, hs.kq h h'.2.2⟩
          have HD : Hid (∀ W v', Two w W w.heap.size ub v' (Go.Proofs.Ythkmdonmbdncaaa.wr t x) t → Calls Try.prog 9 #[.pointer (some ⟨ub, 0, none⟩), .string x] W fun e W' => e = .returned (.int .i64 (wN t x : Int)) ∧ Two w W' w.heap.size ub v' (Go.Proofs.Ythkmdonmbdncaaa.wr t x) (Go.Proofs.Ythkmdonmbdncaaa.wr t x)) := fun W v' h => (d_write x h.doc h.dok hA1 hxz).mono fun e W' h' => ⟨h'.1, h.dput h'.2.1 (h.dok.wr x) h'.2.2⟩
          have hwz : (Go.Proofs.Ythkmdonmbdncaaa.wr t x).A.size ≤ 2048 * (k + 1) := by have := wr_size t x; have := (wN_le t x).2.1; omega
          have L5d := Lib.hid L5.out.drew
          have B5d : Hid (SB bx cs w5.drew) := B5.out
          have e4 : w5.drew.cell? ⟨bx, 4, none⟩ = some (.string x) := c4
          generalize Go.Proofs.Ythkmdonmbdncaaa.wr t x = t' at *
          generalize (wN t x : Int) = n at *
          go_wp2_with fail
          go_region_with (first | (go_at_call 8; refine (HW.out _ L5d.out B5d.out).mono ?_; rintro e w6 ⟨rfl, ⟨v6, hL6⟩, hB6⟩; have L6 := Lib.hid hL6; have e6 := (HC1.out _ _ hB6).2.2; clear hL6 hB6) | (go_at_call 9; refine (HD.out _ _ L6.out).mono ?_; rintro e w7 ⟨rfl, hL7⟩; have L7 := Lib.hid hL7; clear hL7))
          all_goals
            try go_wp2_with fail
            go_meet
            exact ⟨rfl, _, _, hwz, L7.out⟩
        · have HW : Hid (∀ W, Two w W w.heap.size ub v t t → SB bx cs W → Calls Try.prog 8 #[.pointer (some ⟨w.heap.size, 0, none⟩), .string x] W fun e W' => e = .returned (.int .i64 (wN t x : Int)) ∧ (∃ v', Two w W' w.heap.size ub v' (Go.Proofs.Ythkmdonmbdncaaa.wr t x) t) ∧ SB bx cs W') := fun W h hs => (q_write x h.own h.ok hA1 hxz).mono fun e W' h' => ⟨h'.1, by obtain ⟨v', hv⟩ := h'.2.1; exact ⟨v', h.put hv (h.ok.wr x) h'.2.2⟩, hs.kq h h'.2.2⟩
          have HD : Hid (∀ W v', Two w W w.heap.size ub v' (Go.Proofs.Ythkmdonmbdncaaa.wr t x) t → Calls Try.prog 9 #[.pointer (some ⟨ub, 0, none⟩), .string x] W fun e W' => e = .returned (.int .i64 (wN t x : Int)) ∧ Two w W' w.heap.size ub v' (Go.Proofs.Ythkmdonmbdncaaa.wr t x) (Go.Proofs.Ythkmdonmbdncaaa.wr t x)) := fun W v' h => (d_write x h.doc h.dok hA1 hxz).mono fun e W' h' => ⟨h'.1, h.dput h'.2.1 (h.dok.wr x) h'.2.2⟩
          have hwz : (Go.Proofs.Ythkmdonmbdncaaa.wr t x).A.size ≤ 2048 * (k + 1) := by have := wr_size t x; have := (wN_le t x).2.1; omega
          have L5d := Lib.hid L5.out.drew
          have B5d : Hid (SB bx cs w5.drew) := B5.out
          have e4 : w5.drew.cell? ⟨bx, 4, none⟩ = some (.string x) := c4
          generalize Go.Proofs.Ythkmdonmbdncaaa.wr t x = t' at *
          generalize (wN t x : Int) = n at *
          go_wp2_with fail
          go_region_with (first | (go_at_call 8; refine (HW.out _ L5d.out B5d.out).mono ?_; rintro e w6 ⟨rfl, ⟨v6, hL6⟩, hB6⟩; have L6 := Lib.hid hL6; have e6 := (HC1.out _ _ hB6).2.2; clear hL6 hB6) | (go_at_call 9; refine (HD.out _ _ L6.out).mono ?_; rintro e w7 ⟨rfl, hL7⟩; have L7 := Lib.hid hL7; clear hL7))
          all_goals
            try go_wp2_with fail
            go_meet
            exact ⟨rfl, _, _, hwz, L7.out⟩
        · have HW : Hid (∀ W, Two w W w.heap.size ub v t t → Calls Try.prog 10 #[.pointer (some ⟨w.heap.size, 0, none⟩)] W fun e W' => e = .returned (.tuple #[]) ∧ Two w W' w.heap.size ub v (cl t) t) := fun W h => (q_close h.own).mono fun e W' h' => ⟨h'.1, h.put1 h'.2.1 h.ok.cl h'.2.2⟩
          have hwz : (cl t).A.size ≤ 2048 * (k + 1) := by show t.A.size ≤ _; omega
          have HD : Hid (∀ W, Two w W w.heap.size ub v (cl t) t → Two w (W.setCell ⟨ub, 1, none⟩ (.bool true)) w.heap.size ub v (cl t) (cl t)) := fun W h => h.dput (h.doc.set1 true) h.dok.cl ((Kp.refl _ _).setCell (Or.inl (by simp)) _)
          go_wp2_with fail
          refine (HW.out _ L5.out).mono ?_; rintro e w6 ⟨rfl, hL6⟩
          have d1 := hL6.doc.c1
          have f1 := hL6.doc.free 1
          have L7 := Lib.hid (HD.out _ hL6)
          clear hL6
          go_wp2_with fail
          go_meet
          exact ⟨rfl, _, _, hwz, L7.out⟩
        · have HW : Hid (∀ W, Two w W w.heap.size ub v t t → SB bx cs W → Calls Try.prog 11 #[.pointer (some ⟨w.heap.size, 0, none⟩), .int .i64 num, .int .i64 mss] W fun e W' => e = .returned (.tuple #[pvv (nxP t num mss), .bool (nxG t num mss)]) ∧ Two w W' w.heap.size ub v (nx t num mss) t ∧ SB bx cs W') := fun W h hs => (q_next num mss h.own h.ok hA2 hp2).mono fun e W' h' => ⟨h'.1, h.put1 h'.2.1 (h.ok.nx num mss) h'.2.2, hs.kq h (h'.2.2.mono (by simp))⟩
          have HD : Hid (∀ W p a, Two w W w.heap.size ub v (nx t num mss) t → PB a p W → Calls Try.prog 12 #[.pointer (some ⟨ub, 0, none⟩), .int .i64 num, .int .i64 mss] W fun e W' => e = .returned (.tuple #[pvv (nxP t num mss), .bool (nxG t num mss)]) ∧ Two w W' w.heap.size ub v (nx t num mss) (nx t num mss) ∧ PB a p W') := fun W p a h hp => (d_next num mss h.doc h.dok hA2 hp2).mono fun e W' h' => ⟨h'.1, h.dput h'.2.1 (h.dok.nx num mss) h'.2.2, hp.ku h h'.2.2⟩
          have hwz : (nx t num mss).A.size ≤ 2048 * (k + 1) := by show t.A.size ≤ _; omega
          generalize nx t num mss = t' at *
          generalize nxP t num mss = p at *
          generalize nxG t num mss = gg at *
          go_wp2_with fail
          refine (HW.out _ L5.out B5.out).mono ?_; rintro e w6 ⟨rfl, hL6, hB6⟩
          have L6 : Hid (Two w (w6.alloc (.cells (pcs p) 46)) w.heap.size ub v t' t) := hL6.alloc _
          have P6 : Hid (PB w6.heap.size p (w6.alloc (.cells (pcs p) 46))) := PB.new _ _
          have B6 : Hid (SB bx cs (w6.alloc (.cells (pcs p) 46))) := hB6.keep ((Below.refl _ _).alloc (Nat.le_refl _) _)
          obtain ⟨e1, e2, e4⟩ := HC1.out _ _ B6.out
          clear hL6 hB6 c1 c2 c4
          go_upto_region 18 with (refine wpList_store_last rfl 46 _ _ rfl w6 _ (pcs p) rfl rfl rfl info46 rfl (pcs_one p) ?_)
          generalize w6.heap.size = pa at *
          generalize w6.alloc (.cells (pcs p) 46) = w7 at *
          go_wp2_with fail
          refine (HD.out _ _ _ L6.out P6.out).mono ?_; rintro e w8 ⟨rfl, hL8, hP8⟩
          have L8 : Hid (Two w (w8.alloc (.cells (pcs p) 46)) w.heap.size ub v t' t') := hL8.alloc _
          have P8 : Hid (PB pa p (w8.alloc (.cells (pcs p) 46))) := hP8.alloc _
          have R8 : Hid (PB w8.heap.size p (w8.alloc (.cells (pcs p) 46))) := PB.new _ _
          have HU := Lib.hid Try.underlying46
          clear hL8 hP8 e1 e2 e4 L6 P6 B6
          go_upto_region 19 with (refine wpList_store_last rfl 46 _ _ rfl w8 _ (pcs p) rfl rfl rfl info46 rfl (pcs_one p) ?_)
          generalize w8.heap.size = pb at *
          generalize w8.alloc (.cells (pcs p) 46) = w9 at *
          go_wp2_with (first | (refine wpList_load_mid rfl 46 _ rfl pa 0 rfl (pcl p) _ P8.out.range HU.out rfl info46 ?_) | (refine wpList_load_mid rfl 46 _ rfl pb 0 rfl (pcl p) _ R8.out.range HU.out rfl info46 ?_))
          go_meet
          exact ⟨by first | rfl | (simp; done), _, _, hwz, L8.out⟩
        · have HW : Hid (∀ W, Two w W w.heap.size ub v t t → SB bx cs W → Calls Try.prog 11 #[.pointer (some ⟨w.heap.size, 0, none⟩), .int .i64 num, .int .i64 mss] W fun e W' => e = .returned (.tuple #[pvv (nxP t num mss), .bool (nxG t num mss)]) ∧ Two w W' w.heap.size ub v (nx t num mss) t ∧ SB bx cs W') := fun W h hs => (q_next num mss h.own h.ok hA2 hp2).mono fun e W' h' => ⟨h'.1, h.put1 h'.2.1 (h.ok.nx num mss) h'.2.2, hs.kq h (h'.2.2.mono (by simp))⟩
          have HD : Hid (∀ W p a, Two w W w.heap.size ub v (nx t num mss) t → PB a p W → Calls Try.prog 12 #[.pointer (some ⟨ub, 0, none⟩), .int .i64 num, .int .i64 mss] W fun e W' => e = .returned (.tuple #[pvv (nxP t num mss), .bool (nxG t num mss)]) ∧ Two w W' w.heap.size ub v (nx t num mss) (nx t num mss) ∧ PB a p W') := fun W p a h hp => (d_next num mss h.doc h.dok hA2 hp2).mono fun e W' h' => ⟨h'.1, h.dput h'.2.1 (h.dok.nx num mss) h'.2.2, hp.ku h h'.2.2⟩
          have hwz : (nx t num mss).A.size ≤ 2048 * (k + 1) := by show t.A.size ≤ _; omega
          generalize nx t num mss = t' at *
          generalize nxP t num mss = p at *
          generalize nxG t num mss = gg at *
          go_wp2_with fail
          refine (HW.out _ L5.out B5.out).mono ?_; rintro e w6 ⟨rfl, hL6, hB6⟩
          have L6 : Hid (Two w (w6.alloc (.cells (pcs p) 46)) w.heap.size ub v t' t) := hL6.alloc _
          have P6 : Hid (PB w6.heap.size p (w6.alloc (.cells (pcs p) 46))) := PB.new _ _
          have B6 : Hid (SB bx cs (w6.alloc (.cells (pcs p) 46))) := hB6.keep ((Below.refl _ _).alloc (Nat.le_refl _) _)
          obtain ⟨e1, e2, e4⟩ := HC1.out _ _ B6.out
          clear hL6 hB6 c1 c2 c4
          go_upto_region 18 with (refine wpList_store_last rfl 46 _ _ rfl w6 _ (pcs p) rfl rfl rfl info46 rfl (pcs_one p) ?_)
          generalize w6.heap.size = pa at *
          generalize w6.alloc (.cells (pcs p) 46) = w7 at *
          go_wp2_with fail
          refine (HD.out _ _ _ L6.out P6.out).mono ?_; rintro e w8 ⟨rfl, hL8, hP8⟩
          have L8 : Hid (Two w (w8.alloc (.cells (pcs p) 46)) w.heap.size ub v t' t') := hL8.alloc _
          have P8 : Hid (PB pa p (w8.alloc (.cells (pcs p) 46))) := hP8.alloc _
          have R8 : Hid (PB w8.heap.size p (w8.alloc (.cells (pcs p) 46))) := PB.new _ _
          have HU := Lib.hid Try.underlying46
          clear hL8 hP8 e1 e2 e4 L6 P6 B6
          go_upto_region 19 with (refine wpList_store_last rfl 46 _ _ rfl w8 _ (pcs p) rfl rfl rfl info46 rfl (pcs_one p) ?_)
          generalize w8.heap.size = pb at *
          generalize w8.alloc (.cells (pcs p) 46) = w9 at *
          go_wp2_with (first | (refine wpList_load_mid rfl 46 _ rfl pa 0 rfl (pcl p) _ P8.out.range HU.out rfl info46 ?_) | (refine wpList_load_mid rfl 46 _ rfl pb 0 rfl (pcl p) _ R8.out.range HU.out rfl info46 ?_))
          go_meet
          exact ⟨by first | rfl | (simp; done), _, _, hwz, L8.out⟩
        · have HW : Hid (∀ W, Two w W w.heap.size ub v t t → Calls Try.prog 13 #[.pointer (some ⟨w.heap.size, 0, none⟩)] W fun e W' => e = .returned (.tuple #[]) ∧ Two w W' w.heap.size ub v (bk t) t) := fun W h => (q_back h.own).mono fun e W' h' => ⟨h'.1, h.put1 h'.2.1 h.ok.bk h'.2.2⟩
          have hwz : (bk t).A.size ≤ 2048 * (k + 1) := by show t.A.size ≤ _; omega
          have HD : Hid (∀ W, Two w W w.heap.size ub v (bk t) t → Two w (W.setCell ⟨ub, 3, none⟩ (.int .i64 t.u)) w.heap.size ub v (bk t) (bk t)) := fun W h => h.dput (h.doc.set3 t.u) h.dok.bk ((Kp.refl _ _).setCell (Or.inl (by simp)) _)
          go_wp2_with fail
          refine (HW.out _ L5.out).mono ?_; rintro e w6 ⟨rfl, hL6⟩
          have d2 := hL6.doc.c2
          have d3 := hL6.doc.c3
          have f3 := hL6.doc.free 3
          have L7 := Lib.hid (HD.out _ hL6)
          clear hL6
          go_wp2_with fail
          go_meet
          exact ⟨rfl, _, _, hwz, L7.out⟩
        · have HW : Hid (∀ W, Two w W w.heap.size ub v t t → Calls Try.prog 14 #[.pointer (some ⟨w.heap.size, 0, none⟩), .int .i64 mss] W fun e W' => e = .returned (.tuple #[pvv (fiP t mss), .bool (fiG t mss)]) ∧ Below W.heap.size W W') := fun W h => q_first mss h.own h.ok hA2 hp2
          have HD : Hid (∀ W, Two w W w.heap.size ub v t t → Calls Try.prog 15 #[.pointer (some ⟨ub, 0, none⟩), .int .i64 t.u, .int .i64 t.s, .int .i64 mss] W fun e W' => e = .returned (.tuple #[pvv (fiP t mss), .bool (fiG t mss)]) ∧ Below W.heap.size W W') := fun W h => d_first mss h.doc h.dok hA2 hp2
          have hwz : t.A.size ≤ 2048 * (k + 1) := by omega
          generalize fiP t mss = p at *
          generalize fiG t mss = gg at *
          go_wp2_with fail
          refine (HW.out _ L5.out).mono ?_; rintro e w6 ⟨rfl, hb6⟩
          have L6 : Hid (Two w (w6.alloc (.cells (pcs p) 46)) w.heap.size ub v t t) := (L5.out.on hb6).alloc _
          have P6 : Hid (PB w6.heap.size p (w6.alloc (.cells (pcs p) 46))) := PB.new _ _
          have B6 : Hid (SB bx cs (w6.alloc (.cells (pcs p) 46))) := (B5.out.keep hb6).keep ((Below.refl _ _).alloc (Nat.le_refl _) _)
          clear hb6 c1 c2 c4
          go_upto_region 25 with (refine wpList_store_last rfl 46 _ _ rfl w6 _ (pcs p) rfl rfl rfl info46 rfl (pcs_one p) ?_)
          generalize w6.heap.size = pa at *
          generalize w6.alloc (.cells (pcs p) 46) = w7 at *
          have L7 := Lib.hid L6.out.drew
          have P7 : Hid (PB pa p w7.drew) := P6.out
          have B7 : Hid (SB bx cs w7.drew) := B6.out
          have q2 : w7.drew.cell? ⟨ub, 2, none⟩ = some (.int .i64 t.u) := L7.out.doc.c2
          have q4 : w7.drew.cell? ⟨ub, 4, none⟩ = some (.int .i64 t.s) := L7.out.doc.c4
          have e2 : w7.drew.cell? ⟨bx, 2, none⟩ = some (.int .i64 mss) := (HC1.out _ _ B7.out).2.1
          have HU := Lib.hid Try.underlying46
          have HS : Hid (∀ W, Two w W w.heap.size ub v t t → SB bx cs W → W.cell? ⟨ub, 2, none⟩ = some (.int .i64 t.u) ∧ W.cell? ⟨ub, 4, none⟩ = some (.int .i64 t.s) ∧ W.cell? ⟨bx, 2, none⟩ = some (.int .i64 mss)) := fun W h hs => ⟨h.doc.c2, h.doc.c4, (HC1.out _ _ hs).2.1⟩
          have HBp : Hid (∀ W pb q, Two w W w.heap.size ub v t t → SB bx cs W → PB pa p W → PB pb q W → w.heap.size ≤ pb → pa ≠ pb → Two w (W.setCells pb 0 (pcl p)) w.heap.size ub v t t ∧ SB bx cs (W.setCells pb 0 (pcl p)) ∧ PB pa p (W.setCells pb 0 (pcl p)) ∧ PB pb p (W.setCells pb 0 (pcl p))) := fun W pb q h hs hp hq hl hne => by
            have hk : Kp [pb] W (W.setCells pb 0 (pcl p)) := (Kp.refl _ _).setCells (Or.inl (by simp)) _ _
            exact ⟨h.far hq hl hk, (hk.block _ hs.lt (fun e => by have a := hq; unfold PB at a; rw [← List.mem_singleton.1 e, hs] at a; injection a with a; injection a with _ a; exact absurd a (by decide))).trans hs, hp.kp hk (by simpa using hne), hq.put p⟩
          go_cut [14, 15] from 97 to 111 (fun s14 s15 W => ∃ pb, s14 = .pointer (some ⟨pb, 0, none⟩) ∧ s15 = .bool gg ∧ Two w W w.heap.size ub v t t ∧ PB pa p W ∧ PB pb p W)
          case first =>
            refine wp_region_held_drew (S := (fun w' => w'.cell? ⟨ub, 2, none⟩ = some (.int .i64 t.u) ∧ w'.cell? ⟨ub, 4, none⟩ = some (.int .i64 t.s) ∧ w'.cell? ⟨bx, 2, none⟩ = some (.int .i64 mss))) (by kernel_rfl) ⟨q2, q4, e2⟩ (fun hHeld => ?_)
            refine takeH' (i := 0) (d := some 98) (v := ?_) rfl rfl (by kernel_rfl) (by kernel_rfl) (by kernel_rfl) (fun _ _ _ h => h) (Or.inl ⟨by rfl, ?_⟩) hHeld ?_
            rotate_left
            · intro w' hSw; (try dsimp only at hSw); go_simp; try with_reducible rfl
            simp only [Act.put, List.setIfInBounds_toArray, List.set_cons_zero, List.set_cons_succ]
            refine takeH' (i := 1) (d := some 99) (v := ?_) rfl rfl (by kernel_rfl) (by kernel_rfl) (by kernel_rfl) (fun _ _ _ h => h) (Or.inl ⟨by rfl, ?_⟩) hHeld ?_
            rotate_left
            · intro w' hSw; (try dsimp only at hSw); go_simp; try with_reducible rfl
            simp only [Act.put, List.setIfInBounds_toArray, List.set_cons_zero, List.set_cons_succ]
            refine takeH' (i := 2) (d := some 100) (v := ?_) rfl rfl (by kernel_rfl) (by kernel_rfl) (by kernel_rfl) (fun _ _ _ h => h) (Or.inl ⟨by rfl, ?_⟩) hHeld ?_
            rotate_left
            · intro w' hSw; (try dsimp only at hSw); go_simp; try with_reducible rfl
            simp only [Act.put, List.setIfInBounds_toArray, List.set_cons_zero, List.set_cons_succ]
            refine takeH' (i := 3) (d := some 101) (v := ?_) rfl rfl (by kernel_rfl) (by kernel_rfl) (by kernel_rfl) (fun _ _ _ h => h) (Or.inl ⟨by rfl, ?_⟩) hHeld ?_
            rotate_left
            · intro w' hSw; (try dsimp only at hSw); go_simp; try with_reducible rfl
            simp only [Act.put, List.setIfInBounds_toArray, List.set_cons_zero, List.set_cons_succ]
            refine takeH' (i := 4) (d := some 102) (v := ?_) rfl rfl (by kernel_rfl) (by kernel_rfl) (by kernel_rfl) (fun _ _ _ h => h) (Or.inl ⟨by rfl, ?_⟩) hHeld ?_
            rotate_left
            · intro w' hSw; (try dsimp only at hSw); go_simp; try with_reducible rfl
            simp only [Act.put, List.setIfInBounds_toArray, List.set_cons_zero, List.set_cons_succ]
            refine takeH' (i := 5) (d := some 103) (v := ?_) rfl rfl (by kernel_rfl) (by kernel_rfl) (by kernel_rfl) (fun _ _ _ h => h) (Or.inl ⟨by rfl, ?_⟩) hHeld ?_
            rotate_left
            · intro w' hSw; (try dsimp only at hSw); go_simp; try with_reducible rfl
            simp only [Act.put, List.setIfInBounds_toArray, List.set_cons_zero, List.set_cons_succ]
            refine takeH' (i := 6) (d := some 104) (v := ?_) rfl rfl (by kernel_rfl) (by kernel_rfl) (by kernel_rfl) (fun _ _ _ h => h) (Or.inl ⟨by rfl, ?_⟩) hHeld ?_
            rotate_left
            · intro w' hSw; (try dsimp only at hSw); go_simp; try with_reducible rfl
            simp only [Act.put, List.setIfInBounds_toArray, List.set_cons_zero, List.set_cons_succ]
            refine takeH' (i := 7) (d := some 105) (v := ?_) rfl rfl (by kernel_rfl) (by kernel_rfl) (by kernel_rfl) (fun _ _ _ h => h) (Or.inl ⟨by rfl, ?_⟩) hHeld ?_
            rotate_left
            · intro w' hSw; (try dsimp only at hSw); go_simp; try with_reducible rfl
            simp only [Act.put, List.setIfInBounds_toArray, List.set_cons_zero, List.set_cons_succ]
            refine takeH' (i := 8) (d := some 106) (v := ?_) rfl rfl (by kernel_rfl) (by kernel_rfl) (by kernel_rfl) (fun _ _ _ h => h) (Or.inl ⟨by rfl, ?_⟩) hHeld ?_
            rotate_left
            · intro w' hSw; (try dsimp only at hSw); go_simp; try with_reducible rfl
            simp only [Act.put, List.setIfInBounds_toArray, List.set_cons_zero, List.set_cons_succ]
            refine takeH' (i := 9) (d := some 107) (v := ?_) rfl rfl (by kernel_rfl) (by kernel_rfl) (by kernel_rfl) (fun _ _ _ h => h) (Or.inl ⟨by rfl, ?_⟩) hHeld ?_
            rotate_left
            · intro w' hSw; (try dsimp only at hSw); go_simp; try with_reducible rfl
            simp only [Act.put, List.setIfInBounds_toArray, List.set_cons_zero, List.set_cons_succ]
            refine takeH' (i := 10) (d := some 108) (v := ?_) rfl rfl (by kernel_rfl) (by kernel_rfl) (by kernel_rfl) (fun _ _ _ h => h) (Or.inl ⟨by rfl, ?_⟩) hHeld ?_
            rotate_left
            · intro w' hSw; (try dsimp only at hSw); go_simp; try with_reducible rfl
            simp only [Act.put, List.setIfInBounds_toArray, List.set_cons_zero, List.set_cons_succ]
            refine wpAnyH_ready (rs := [11, 15]) (by kernel_rfl) (by simp) ?_
            refine AllReadyH.cons rfl (fun K hK => ?_) (AllReadyH.cons rfl (fun K hK => ?_) AllReadyH.nil)
            · go_simp
              refine (HD.out _ L7.out).mono ?_; rintro e w8 ⟨rfl, hb8⟩
              have L8 := Lib.hid (L7.out.on hb8)
              have P8 := Lib.hid (P7.out.keep hb8)
              have B8 := Lib.hid (B7.out.keep hb8)
              clear hb8 hHeld
              refine hK.out _ _ (HS.out _ L8.out B8.out) (fun hHeld => ?_)
              clear hK K
              try simp only [Act.put, List.setIfInBounds_toArray, List.set_cons_zero, List.set_cons_succ]
              refine takeH' (i := 12) (d := some 97) (v := ?_) rfl rfl (by kernel_rfl) (by kernel_rfl) (by kernel_rfl) (fun _ _ _ h => h) (Or.inl ⟨by rfl, ?_⟩) hHeld ?_
              rotate_left
              · intro w' hSw; (try dsimp only at hSw); go_simp; try with_reducible rfl
              simp only [Act.put, List.setIfInBounds_toArray, List.set_cons_zero, List.set_cons_succ]
              refine takeH' (i := 13) (d := some 110) (v := ?_) rfl rfl (by kernel_rfl) (by kernel_rfl) (by kernel_rfl) (fun _ _ _ h => h) (Or.inl ⟨by rfl, ?_⟩) hHeld ?_
              rotate_left
              · intro w' hSw; (try dsimp only at hSw); go_simp; try with_reducible rfl
              simp only [Act.put, List.setIfInBounds_toArray, List.set_cons_zero, List.set_cons_succ]
              refine takeH' (i := 14) (d := some 111) (v := ?_) rfl rfl (by kernel_rfl) (by kernel_rfl) (by kernel_rfl) (fun _ _ _ h => h) (Or.inl ⟨by rfl, ?_⟩) hHeld ?_
              rotate_left
              · intro w' hSw; (try dsimp only at hSw); go_simp; try with_reducible rfl
              simp only [Act.put, List.setIfInBounds_toArray, List.set_cons_zero, List.set_cons_succ]
              refine wpAnyH_ready (rs := [15]) (by kernel_rfl) (by simp) ?_
              refine AllReadyH.cons rfl (fun K hK => ?_) AllReadyH.nil
              go_simp
              have L9 : Hid (Two w (w8.alloc (.cells (pcs pc0) 46)) w.heap.size ub v t t) := L8.out.alloc _
              have P9 : Hid (PB pa p (w8.alloc (.cells (pcs pc0) 46))) := P8.out.alloc _
              have B9 : Hid (SB bx cs (w8.alloc (.cells (pcs pc0) 46))) := B8.out.keep ((Below.refl _ _).alloc (Nat.le_refl _) _)
              have R9 : Hid (PB w8.heap.size pc0 (w8.alloc (.cells (pcs pc0) 46))) := PB.new _ _
              have hne : pa ≠ w8.heap.size := Nat.ne_of_lt P8.out.lt
              have hle : w.heap.size ≤ w8.heap.size := L8.out.be.size
              clear hHeld
              refine hK.out _ _ (HS.out _ L9.out B9.out) (fun hHeld => ?_)
              clear hK K
              try simp only [Act.put, List.setIfInBounds_toArray, List.set_cons_zero, List.set_cons_succ]
              obtain ⟨hLa, hBa, hPa, hRa⟩ := HBp.out _ _ _ L9.out B9.out P9.out R9.out hle hne
              refine wpAnyH_ready (rs := [16]) (by kernel_rfl) (by simp) ?_
              refine AllReadyH.cons rfl (fun K hK => ?_) AllReadyH.nil
              rw [if_pos (by rfl)]
              refine wp_store_mid _ _ _ rfl _ _ (pcs p) rfl rfl R9.out.there info46 (pcs_one _) ?_
              clear hHeld
              refine hK.out _ _ (HS.out _ hLa hBa) (fun hHeld => ?_)
              clear hK K
              try simp only [Act.put, List.setIfInBounds_toArray, List.set_cons_zero, List.set_cons_succ]
              refine takeH' (i := 17) (d := some 15) (v := ?_) rfl rfl (by kernel_rfl) (by kernel_rfl) (by kernel_rfl) (fun _ _ _ h => h) (Or.inl ⟨by rfl, ?_⟩) hHeld ?_
              rotate_left
              · intro w' hSw; (try dsimp only at hSw); go_simp; try with_reducible rfl
              simp only [Act.put, List.setIfInBounds_toArray, List.set_cons_zero, List.set_cons_succ]
              refine wpAnyH_done (by kernel_rfl) ?_ _
              try dsimp only
              try go_wp2_with fail
              go_meet
              exact ⟨_, rfl, rfl, hLa, hPa, hRa⟩
            · go_simp
              have L8 : Hid (Two w (w7.alloc (.cells (pcs pc0) 46)).drew w.heap.size ub v t t) := (L6.out.alloc _).drew
              have P8 : Hid (PB pa p (w7.alloc (.cells (pcs pc0) 46)).drew) := P6.out.alloc _
              have B8 : Hid (SB bx cs (w7.alloc (.cells (pcs pc0) 46)).drew) := B6.out.keep (((Below.refl _ _).alloc (Nat.le_refl _) _).drew)
              have R8 : Hid (PB w7.heap.size pc0 (w7.alloc (.cells (pcs pc0) 46)).drew) := PB.new w7 pc0
              have hne : pa ≠ w7.heap.size := Nat.ne_of_lt P6.out.lt
              have hle : w.heap.size ≤ w7.heap.size := L6.out.be.size
              clear hHeld
              refine hK.out _ _ (HS.out _ L8.out B8.out) (fun hHeld => ?_)
              clear hK K
              try simp only [Act.put, List.setIfInBounds_toArray, List.set_cons_zero, List.set_cons_succ]
              refine wpAnyH_ready (rs := [11]) (by kernel_rfl) (by simp) ?_
              refine AllReadyH.cons rfl (fun K hK => ?_) AllReadyH.nil
              go_simp
              refine (HD.out _ L8.out).mono ?_; rintro e w8 ⟨rfl, hb8⟩
              have L9 := Lib.hid (L8.out.on hb8)
              have P9 := Lib.hid (P8.out.keep hb8)
              have B9 := Lib.hid (B8.out.keep hb8)
              have R9 := Lib.hid (R8.out.keep hb8)
              clear hb8 hHeld
              refine hK.out _ _ (HS.out _ L9.out B9.out) (fun hHeld => ?_)
              clear hK K
              try simp only [Act.put, List.setIfInBounds_toArray, List.set_cons_zero, List.set_cons_succ]
              refine takeH' (i := 12) (d := some 97) (v := ?_) rfl rfl (by kernel_rfl) (by kernel_rfl) (by kernel_rfl) (fun _ _ _ h => h) (Or.inl ⟨by rfl, ?_⟩) hHeld ?_
              rotate_left
              · intro w' hSw; (try dsimp only at hSw); go_simp; try with_reducible rfl
              simp only [Act.put, List.setIfInBounds_toArray, List.set_cons_zero, List.set_cons_succ]
              refine takeH' (i := 13) (d := some 110) (v := ?_) rfl rfl (by kernel_rfl) (by kernel_rfl) (by kernel_rfl) (fun _ _ _ h => h) (Or.inl ⟨by rfl, ?_⟩) hHeld ?_
              rotate_left
              · intro w' hSw; (try dsimp only at hSw); go_simp; try with_reducible rfl
              simp only [Act.put, List.setIfInBounds_toArray, List.set_cons_zero, List.set_cons_succ]
              refine takeH' (i := 14) (d := some 111) (v := ?_) rfl rfl (by kernel_rfl) (by kernel_rfl) (by kernel_rfl) (fun _ _ _ h => h) (Or.inl ⟨by rfl, ?_⟩) hHeld ?_
              rotate_left
              · intro w' hSw; (try dsimp only at hSw); go_simp; try with_reducible rfl
              simp only [Act.put, List.setIfInBounds_toArray, List.set_cons_zero, List.set_cons_succ]
              obtain ⟨hLa, hBa, hPa, hRa⟩ := HBp.out _ _ _ L9.out B9.out P9.out R9.out hle hne
              refine wpAnyH_ready (rs := [16]) (by kernel_rfl) (by simp) ?_
              refine AllReadyH.cons rfl (fun K hK => ?_) AllReadyH.nil
              rw [if_pos (by rfl)]
              refine wp_store_mid _ _ _ rfl _ _ (pcs p) rfl rfl R9.out.there info46 (pcs_one _) ?_
              clear hHeld
              refine hK.out _ _ (HS.out _ hLa hBa) (fun hHeld => ?_)
              clear hK K
              try simp only [Act.put, List.setIfInBounds_toArray, List.set_cons_zero, List.set_cons_succ]
              refine takeH' (i := 17) (d := some 15) (v := ?_) rfl rfl (by kernel_rfl) (by kernel_rfl) (by kernel_rfl) (fun _ _ _ h => h) (Or.inl ⟨by rfl, ?_⟩) hHeld ?_
              rotate_left
              · intro w' hSw; (try dsimp only at hSw); go_simp; try with_reducible rfl
              simp only [Act.put, List.setIfInBounds_toArray, List.set_cons_zero, List.set_cons_succ]
              refine wpAnyH_done (by kernel_rfl) ?_ _
              try dsimp only
              try go_wp2_with fail
              go_meet
              exact ⟨_, rfl, rfl, hLa, hPa, hRa⟩
          obtain ⟨pb, rfl, rfl, hL9, hP9, hR9⟩ := hcut
          have L9 := Lib.hid hL9
          have P9 := Lib.hid hP9
          have R9 := Lib.hid hR9
          clear hL9 hP9 hR9 L6 P6 B6 L7 P7 B7 q2 q4 e2 HW HD
          go_wp2_with (first | (refine wpList_load_mid rfl 46 _ rfl pa 0 rfl (pcl p) _ P9.out.range HU.out rfl info46 ?_) | (refine wpList_load_mid rfl 46 _ rfl pb 0 rfl (pcl p) _ R9.out.range HU.out rfl info46 ?_))
          go_meet
          exact ⟨by first | rfl | (simp; done), _, _, hwz, L9.out⟩
        · have HW : Hid (∀ W, Two w W w.heap.size ub v t t → SB bx cs W → Calls Try.prog 16 #[.pointer (some ⟨w.heap.size, 0, none⟩), .int .i64 num] W fun e W' => e = .returned (.int .i64 (akN t num)) ∧ (∃ v', Two w W' w.heap.size ub v' (ak t num) t) ∧ SB bx cs W') := fun W h hs => (q_ack num h.own h.ok hA2 hn2).mono fun e W' h' => ⟨h'.1, by obtain ⟨v', hv⟩ := h'.2.1; exact ⟨v', h.put hv (h.ok.ak num) h'.2.2⟩, hs.kq h h'.2.2⟩
          have HD : Hid (∀ W v', Two w W w.heap.size ub v' (ak t num) t → Calls Try.prog 17 #[.pointer (some ⟨ub, 0, none⟩), .int .i64 num] W fun e W' => e = .returned (.int .i64 (akN t num)) ∧ Two w W' w.heap.size ub v' (ak t num) (ak t num)) := fun W v' h => (d_ack num h.doc h.dok hA2 hn1 hn2).mono fun e W' h' => ⟨h'.1, h.dput h'.2.1 (h.dok.ak num) h'.2.2⟩
          have hwz : (ak t num).A.size ≤ 2048 * (k + 1) := by rw [ak_A]; omega
          have L5d := Lib.hid L5.out.drew
          have B5d : Hid (SB bx cs w5.drew) := B5.out
          have e1 : w5.drew.cell? ⟨bx, 1, none⟩ = some (.int .i64 num) := c1
          generalize ak t num = t' at *
          generalize akN t num = n at *
          go_wp2_with fail
          go_region_with (first | (go_at_call 16; refine (HW.out _ L5d.out B5d.out).mono ?_; rintro e w6 ⟨rfl, ⟨v6, hL6⟩, hB6⟩; have L6 := Lib.hid hL6; have e6 := (HC1.out _ _ hB6).1; clear hL6 hB6) | (go_at_call 17; refine (HD.out _ _ L6.out).mono ?_; rintro e w7 ⟨rfl, hL7⟩; have L7 := Lib.hid hL7; clear hL7))
          all_goals
            try go_wp2_with fail
            go_meet
            exact ⟨rfl, _, _, hwz, L7.out⟩
      obtain ⟨rfl, v6, t6, hA6, hL6⟩ := hcut
      have L6 := Lib.hid hL6
      clear hL6 L5 B5 c1 c2 c4 HC1 hA hA1 hA2
      have hA2 : t6.A.size ≤ 4503599627370496 := by omega
      have HG : Hid (∀ n, OT w.heap.size v6 t6 (wc.drewN n) ∧ UT ub t6 (wc.drewN n)) := fun n => ⟨(L6.out.drewN n).own, (L6.out.drewN n).doc⟩
      have HO := Lib.hid L6.out.ok
      have d2 := L6.out.doc.c2
      have d3 := L6.out.doc.c3
      have d4 := L6.out.doc.c4
      go_wp2_with fail
      go_quiet (first | (go_at_call 18; exact Calls.quiet_of_same (q_una (HG.out _).1)) | (go_at_call 19; exact Calls.quiet_of_same (q_cur (HG.out _).1)) | (go_at_call 20; exact Calls.quiet_of_same (q_sent (HG.out _).1)) | (go_at_call 21; exact Calls.quiet_of_same (q_end (HG.out _).1 hA2)) | (go_at_call 22; exact Calls.quiet_of (d_end (HG.out _).2 hA2)) | (go_at_call 23; exact Calls.quiet_of_same (q_room (HG.out _).1 HO.out)) | (go_at_call 24; exact Calls.quiet_of (d_room (HG.out _).2 HO.out hA2)))
      have L8 := Lib.hid (L6.out.drewN nq)
      clear L6 d2 d3 d4 HG HO
      generalize wc.drewN nq = w8 at *
      go_wp2_with fail
      go_roundw
      case rel => exact ⟨k + 1, _, t6, by omega, by go_num, hA6, L8.out⟩
      case measure => simp [intOf]; omega
    · have hlt' : ¬ ((k : Int) < (len : Int)) := by omega
      have hA2 : t.A.size ≤ 4503599627370496 := by omega
      go_wp2_with fail
      refine (q_end L.out.own hA2).mono ?_; rintro e w2 ⟨rfl, rfl⟩
      go_wp2_with fail
      refine (d_end L.out.doc hA2).mono ?_; rintro e w3 ⟨rfl, m, hw3⟩
      have L3 : Hid (Below w.heap.size w w3) := by rw [hw3]; exact (L.out.drewN m).be
      clear L hw3
      go_wp2_with fail
      go_ret
      exact ⟨ret_bool (by first | rfl | (simp; done)), L3.out⟩
end Go.Proofs.Ythkmdonmbdncaaa
