/-
  Contracts of a node's walk with Find's function, and of Find (package route).
-/
import Derived.Test.YtchmfbfijglokaaAll
namespace Go.Proofs.Ytchmfbfijglokaa
open Go.RowKit
set_option linter.unusedVariables false

/-- What Find tells of an entry, or of none. -/
def fV (o : Option Ent) : Int := match o with | some e => e.v | none => 0
def fA (o : Option Ent) : Nat := match o with | some e => e.a | none => 0
def fB (o : Option Ent) : Nat := match o with | some e => e.b | none => 0
/-- The blocks that Find's function writes. -/
def FB (B : Nat) : List Nat := [B + 2, B + 3, B + 4]
/-- Find's variables lie from block B on. -/
structure FSt (B x : Nat) (o : Option Ent) (W : World) : Prop where
  arg : W.heap[B]? = some (.cells #[.int .u32 (x : Int)] 32 (0, 0))
  via : W.heap[B + 2]? = some (.cells #[.int .i64 (fV o)] 3 (0, 0))
  best : W.heap[B + 3]? = some (.cells #[.int .u32 (fA o : Nat), .int .i64 (fB o : Nat)] 34 (0, 0))
  found : W.heap[B + 4]? = some (.cells #[.bool o.isSome] 4 (0, 0))
theorem FSt.lt {B x : Nat} {o : Option Ent} {W : World} (h : FSt B x o W) : B + 4 < W.heap.size := lt_of_block h.found
theorem FSt.on {B x : Nat} {o : Option Ent} {w w' : World} (h : FSt B x o w) (hb : Below w.heap.size w w') : FSt B x o w' := by
  have := h.lt
  exact ⟨(hb.block _ (by omega)).trans h.arg, (hb.block _ (by omega)).trans h.via, (hb.block _ (by omega)).trans h.best, (hb.block _ (by omega)).trans h.found⟩
/-- One entry is stored. -/
theorem FSt.put {B x : Nat} {o : Option Ent} {w : World} (h : FSt B x o w) (e : Ent) :
    FSt B x (some e) ((((w.setCell ⟨B + 2, 0, none⟩ (.int .i64 e.v)).setCell ⟨B + 3, 0, none⟩ (.int .u32 (e.a : Int))).setCell ⟨B + 3, 1, none⟩ (.int .i64 (e.b : Int))).setCell ⟨B + 4, 0, none⟩ (.bool true)) := by
  have n : ∀ (w : World) (k j i : Nat) (u : Value), k ≠ j → (w.setCell ⟨j, i, none⟩ u).heap[k]? = w.heap[k]? := fun w k j i u hk => Below.heap_setCell _ _ _ _ hk
  refine ⟨?_, ?_, ?_, ?_⟩
  · rw [n _ _ _ _ _ (by omega), n _ _ _ _ _ (by omega), n _ _ _ _ _ (by omega), n _ _ _ _ _ (by omega)]; exact h.arg
  · rw [n _ _ _ _ _ (by omega), n _ _ _ _ _ (by omega), n _ _ _ _ _ (by omega)]; exact one_setCell h.via
  · rw [n _ _ _ _ _ (by omega), Joins.block_setCell (Joins.block_setCell (by rw [n _ _ _ _ _ (by omega)]; exact h.best) _)]; rfl
  · exact one_setCell (by rw [n _ _ _ _ _ (by omega), n _ _ _ _ _ (by omega), n _ _ _ _ _ (by omega)]; exact h.found)
theorem FSt.kept {B : Nat} {w w0 : World} (hb : Below w.heap.size w w0) (a b c d : Value) : Kp (FB B) w ((((w0.setCell ⟨B + 2, 0, none⟩ a).setCell ⟨B + 3, 0, none⟩ b).setCell ⟨B + 3, 1, none⟩ c).setCell ⟨B + 4, 0, none⟩ d) :=
  ((((Kp.ofBelow hb).setCell (Or.inl (by simp [FB])) _).setCell (Or.inl (by simp [FB])) _).setCell (Or.inl (by simp [FB])) _).setCell (Or.inl (by simp [FB])) _

theorem has_inP {a b x : Nat} (hb : b ≤ 32) (hm : a % 2 ^ (32 - b) = 0) : has a b x = inP a b x := by
  unfold has inP chk wid
  rw [if_neg (by omega), Int.toNat_natCast, if_pos hm]
  simp

/-- What Find's function makes of what was found so far. -/
def f1 (x a b : Nat) (th : Bool) (v : Int) (o : Option Ent) : Option Ent := if inP a b x = true ∧ th = true then some ⟨a, b, v⟩ else o

set_option maxHeartbeats 2000000 in
theorem find1_any (B x pa pb k : Nat) (lp rp : Value) (th : Bool) (v : Int) (o : Option Ent) (w : World) (hx : x < 4294967296) (hpa : pa < 4294967296) (hpb : pb ≤ 32) (hm : pa % 2 ^ (32 - pb) = 0) (hS : FSt B x o w) (hk : w.heap[k]? = some (.cells #[lp, rp, .bool th, .int .i64 v] 73 (0, 0))) (hkB : k < B) :
    Calls Try.prog 32 #[.agg #[.int .u32 pa, .int .i64 pb], .pointer (some ⟨k, 0, none⟩), .pointer (some ⟨B, 0, none⟩), .pointer (some ⟨B + 2, 0, none⟩), .pointer (some ⟨B + 3, 0, none⟩), .pointer (some ⟨B + 4, 0, none⟩)] w fun e w' => e = .returned (.bool (inP pa pb x)) ∧ FSt B x (f1 x pa pb th v o) w' ∧ Kp (FB B) w w' := by
  have hlt := hS.lt
  have hkl : k < w.heap.size := by omega
  have hBl : B < w.heap.size := by omega
  have HH : Hid (∀ w', Calls Try.prog 21 #[.agg #[.int .u32 pa, .int .i64 pb], .int .u32 x] w' fun e w'' => e = .returned (.bool (inP pa pb x)) ∧ Below w'.heap.size w' w'') := fun w' => by
    have := has_any pa x pb w' hpa hx
    rwa [has_inP hpb hm] at this
  have hb0 : Below w.heap.size w (w.alloc (.cells #[.int .u32 (pa : Int), .int .i64 (pb : Int)] 34)) := (Below.refl _ _).alloc (Nat.le_refl _) _
  have ca := cell_of_one hS.arg
  have S := Lib.hid hS
  have HK := Lib.hid hk
  clear hS hk
  cases hi : inP pa pb x with
  | false =>
    rw [hi] at HH
    have HF : Hid (f1 x pa pb th v o = o) := by show _ = _; unfold f1; simp [hi]
    clear hi
    go_enter Try.func32, Try.ntmps32
    go_wp2_with fail
    refine (HH.out _).mono ?_; rintro e w1 ⟨rfl, hb1⟩
    go_wp2_with fail
    go_ret
    have h01 := hb0.trans (hb1.mono (by simp))
    exact ⟨rfl, by rw [HF.out]; exact S.out.on h01, Kp.ofBelow h01⟩
  | true =>
    rw [hi] at HH
    cases th with
    | false =>
      have HF : Hid (f1 x pa pb false v o = o) := by show _ = _; unfold f1; simp
      clear hi
      go_enter Try.func32, Try.ntmps32
      go_wp2_with fail
      refine (HH.out _).mono ?_; rintro e w1 ⟨rfl, hb1⟩
      have h01 := hb0.trans (hb1.mono (by simp))
      obtain ⟨_, _, c2, _⟩ := node_cells ((h01.block k hkl).trans HK.out)
      go_wp2_with fail
      go_ret
      exact ⟨rfl, by rw [HF.out]; exact S.out.on h01, Kp.ofBelow h01⟩
    | true =>
      have HF : Hid (f1 x pa pb true v o = some ⟨pa, pb, v⟩) := by show _ = _; unfold f1; simp [hi]
      clear hi
      go_enter Try.func32, Try.ntmps32
      go_wp2_with fail
      refine (HH.out _).mono ?_; rintro e w1 ⟨rfl, hb1⟩
      have h01 := hb0.trans (hb1.mono (by simp))
      obtain ⟨_, _, c2, c3⟩ := node_cells ((h01.block k hkl).trans HK.out)
      obtain ⟨b0, b1, _, _⟩ := two_cells (box_keep hb1)
      have S1 := Lib.hid (S.out.on h01)
      have v0 := cell_of_one S1.out.via
      have v1 := free_of_one S1.out.via
      have f0 := cell_of_one S1.out.found
      have f1' := free_of_one S1.out.found
      obtain ⟨e0, e1, e2, e3⟩ := two_cells S1.out.best
      have n1 : ¬ (w.heap.size = B + 2) := by omega
      have n2 : ¬ (w.heap.size = B + 3) := by omega
      have n3 : ¬ (w.heap.size = B + 4) := by omega
      have n4 : ¬ (k = B + 2) := by omega
      have n5 : ¬ (k = B + 3) := by omega
      have n6 : ¬ (k = B + 4) := by omega
      go_wp2_with fail
      go_region
      go_wp2_with fail
      go_ret
      refine ⟨rfl, ?_, (FSt.kept h01 _ _ _ _).drew⟩
      rw [HF.out]
      obtain ⟨q1, q2, q3, q4⟩ := S1.out.put ⟨pa, pb, v⟩
      exact ⟨q1, q2, q3, q4⟩

theorem FSt.tin {B : Nat} {w w' : World} {t : LT} (hin : Tin w t) (hB : ∀ k ∈ blocks t, k < B) (hg : Kp (FB B) w w') : Tin w' t :=
  hin.kp hg fun k hk hm => by have := hB k hk; simp [FB] at hm; omega

set_option maxHeartbeats 2000000 in
/-- The walk finds the entry behind all that have x. -/
theorem walkFind_any (B x : Nat) (hx : x < 4294967296) (t : LT) : ∀ (a b : Nat) (o : Option Ent) (w : World), Tin w t → (∀ k ∈ blocks t, k < B) → fits t b → b ≤ 33 → a < 4294967296 → a % 2 ^ (32 - b) = 0 → a + 2 ^ (32 - b) ≤ 4294967296 → FSt B x o w →
    Calls Try.prog 30 #[(ptrOf t), .agg #[.int .u32 a, .int .i64 b], .func (.func 32) #[] #[.pointer (some ⟨B, 0, none⟩), .pointer (some ⟨B + 2, 0, none⟩), .pointer (some ⟨B + 3, 0, none⟩), .pointer (some ⟨B + 4, 0, none⟩)]] w fun e w' => e = .returned (.tuple #[]) ∧ FSt B x (findF x o (toL t a b)) w' ∧ Kp (FB B) w w' := by
  induction t with
  | nil =>
    intro a b o w hin hB hf hb ha hm hs hS
    show Calls Try.prog 30 #[.pointer none, .agg #[.int .u32 a, .int .i64 b], .func (.func 32) #[] #[.pointer (some ⟨B, 0, none⟩), .pointer (some ⟨B + 2, 0, none⟩), .pointer (some ⟨B + 3, 0, none⟩), .pointer (some ⟨B + 4, 0, none⟩)]] w _
    have S := Lib.hid hS
    go_enter Try.func30, Try.ntmps30
    go_wp2_with fail
    refine bodyPost_ret (results_none rfl _ _ _) rfl ?_
    have hb : Below w.heap.size w (w.alloc (.cells #[.int .u32 (a : Int), .int .i64 (b : Int)] 34)) := (Below.refl _ _).alloc (Nat.le_refl _) _
    exact ⟨rfl, S.out.on hb, Kp.ofBelow hb⟩
  | node k o0 x0 l r ihl ihr =>
    obtain ⟨th, v⟩ := x0
    intro a b o w hin hB hf hb ha hm hs hS
    have hf0 := hf
    obtain ⟨h32, hfl, hfr⟩ := hf
    obtain ⟨pl, hpl⟩ := ptr_form l
    obtain ⟨pr, hpr⟩ := ptr_form r
    have hroot := hin.1
    rw [hpl, hpr] at hroot
    have hkB : k < B := hB k (by simp [blocks])
    have hkl := lt_of_block hroot
    have hBl := hS.lt
    have e1 : 32 - (b + 1) = 31 - b := by omega
    have hbx : Below w.heap.size w (w.alloc (.cells #[.int .u32 (a : Int), .int .i64 (b : Int)] 34)) := (Below.refl _ _).alloc (Nat.le_refl _) _
    have S0 : Hid (FSt B x o (w.alloc (.cells #[.int .u32 (a : Int), .int .i64 (b : Int)] 34))) := hS.on hbx
    have HV : Hid (Calls Try.prog 32 #[.agg #[.int .u32 a, .int .i64 b], .pointer (some ⟨k, 0, none⟩), .pointer (some ⟨B, 0, none⟩), .pointer (some ⟨B + 2, 0, none⟩), .pointer (some ⟨B + 3, 0, none⟩), .pointer (some ⟨B + 4, 0, none⟩)] (w.alloc (.cells #[.int .u32 (a : Int), .int .i64 (b : Int)] 34)) fun e w' => e = .returned (.bool (inP a b x)) ∧ FSt B x (f1 x a b th v o) w' ∧ Kp (FB B) (w.alloc (.cells #[.int .u32 (a : Int), .int .i64 (b : Int)] 34)) w') :=
      find1_any B x a b k (.pointer pl) (.pointer pr) th v o (w.alloc (.cells #[.int .u32 (a : Int), .int .i64 (b : Int)] 34)) hx ha h32 hm S0.out ((hbx.block k hkl).trans hroot) hkB
    show Calls Try.prog 30 #[.pointer (some ⟨k, 0, none⟩), .agg #[.int .u32 a, .int .i64 b], .func (.func 32) #[] #[.pointer (some ⟨B, 0, none⟩), .pointer (some ⟨B + 2, 0, none⟩), .pointer (some ⟨B + 3, 0, none⟩), .pointer (some ⟨B + 4, 0, none⟩)]] w _
    cases hi : inP a b x with
    | false =>
      rw [hi] at HV
      have HE : Hid (f1 x a b th v o = findF x o (toL (.node k o0 (th, v) l r) a b)) := by
        show _ = _
        rw [find_out hf0 hm hi]; unfold f1; simp [hi]
      clear ihl ihr hroot hin hB hfl hfr hm hs e1 hS hi hf0 hpl hpr
      go_enter Try.func30, Try.ntmps30
      go_wp2_with fail
      refine HV.out.mono ?_; rintro e w1 ⟨rfl, hS0, hg0⟩
      have HS0 := Lib.hid hS0
      clear hS0
      go_wp2_with fail
      refine bodyPost_ret (results_none rfl _ _ _) rfl ?_
      exact ⟨rfl, by rw [← HE.out]; exact HS0.out, (Kp.ofBelow (bs := FB B) hbx).trans hg0 (fun x hx => Or.inl hx)⟩
    | true =>
    rw [hi] at HV
    generalize hP0 : f1 x a b th v o = P0 at HV
    generalize hP1 : findF x P0 (toL l a (b + 1)) = P1
    generalize hP2 : findF x P1 (toL r (a + 2 ^ (31 - b)) (b + 1)) = P2
    have HE : Hid (findF x o (toL (.node k o0 (th, v) l r) a b) = P2) := by
      show _ = _
      rw [← hP2, ← hP1, ← hP0, toL, findF_append, findF_append]
      congr 2
      unfold f1
      cases th <;> simp [findF, hi]
    have RT : Hid (∀ w', Kp (FB B) (w.alloc (.cells #[.int .u32 (a : Int), .int .i64 (b : Int)] 34)) w' → w'.heap[k]? = some (.cells #[.pointer pl, .pointer pr, .bool th, .int .i64 v] 73 (0, 0)) ∧ w'.heap[w.heap.size]? = some (.cells #[.int .u32 (a : Int), .int .i64 (b : Int)] 34 (0, 0))) := by
      intro w' hg
      refine ⟨?_, ?_⟩
      · rw [hg.block k (by simp; omega) (by simp [FB]; omega), hbx.block k hkl]; exact hroot
      · rw [hg.block _ (by simp) (by simp [FB]; omega)]; exact heap_alloc_new _ _
    have TL0 : Hid (∀ w', Kp (FB B) (w.alloc (.cells #[.int .u32 (a : Int), .int .i64 (b : Int)] 34)) w' → Tin w' l) := fun w' hg => FSt.tin (hin.2.1.below hbx hin.2.1.lt) (fun j hj => hB j (by simp [blocks, hj])) hg
    have TL1 : Hid (∀ w', Kp (FB B) (w.alloc (.cells #[.int .u32 (a : Int), .int .i64 (b : Int)] 34)) w' → Tin w' r) := fun w' hg => FSt.tin (hin.2.2.below hbx hin.2.2.lt) (fun j hj => hB j (by simp [blocks, hj])) hg
    have HL : Hid (b ≤ 31 → ∀ w', FSt B x P0 w' → Tin w' l → Calls Try.prog 30 #[.pointer pl, .agg #[.int .u32 a, .int .i64 ((b : Int) + 1)], .func (.func 32) #[] #[.pointer (some ⟨B, 0, none⟩), .pointer (some ⟨B + 2, 0, none⟩), .pointer (some ⟨B + 3, 0, none⟩), .pointer (some ⟨B + 4, 0, none⟩)]] w' fun e w'' => e = .returned (.tuple #[]) ∧ FSt B x P1 w'' ∧ Kp (FB B) w' w'') := by
      intro h31 w' h1 h2
      have hh := two_half b h31
      have := ihl a (b + 1) P0 w' h2 (fun j hj => hB j (by simp [blocks, hj])) hfl (by omega) ha (by rw [e1]; exact (mod_half h31 hm).1) (by rw [e1]; omega) h1
      rwa [hpl, hP1, show ((b + 1 : Nat) : Int) = (b : Int) + 1 from by omega] at this
    have HLN : Hid (l = .nil → P1 = P0) := by rintro rfl; rw [← hP1]; rfl
    have HLB : Hid (l ≠ .nil → b ≤ 31) := by
      intro hx
      cases l with
      | nil => exact absurd rfl hx
      | node => have := hfl.1; omega
    have HRB : Hid (r ≠ .nil → b ≤ 31) := by
      intro hx
      cases r with
      | nil => exact absurd rfl hx
      | node => have := hfr.1; omega
    have HRN : Hid (r = .nil → P2 = P1) := by rintro rfl; rw [← hP2]; rfl
    have G0 : Hid (b ≤ 31 → ∀ w', Calls Try.prog 37 #[.agg #[.int .u32 a, .int .i64 b], .int .i64 0] w' fun e w'' => e = .returned (.agg #[.int .u32 a, .int .i64 ((b : Int) + 1)]) ∧ Below w'.heap.size w' w'') := by
      intro h31 w'
      have := longer_any a b 0 w' ha h31 (by omega) hm hs
      rwa [Nat.zero_mul, Nat.add_zero, show ((b + 1 : Nat) : Int) = (b : Int) + 1 from by omega] at this
    have G1 : Hid (b ≤ 31 → ∀ w', Calls Try.prog 37 #[.agg #[.int .u32 a, .int .i64 b], .int .i64 1] w' fun e w'' => e = .returned (.agg #[.int .u32 ((a + 2 ^ (31 - b) : Nat) : Int), .int .i64 ((b : Int) + 1)]) ∧ Below w'.heap.size w' w'') := by
      intro h31 w'
      have := longer_any a b 1 w' ha h31 (by omega) hm hs
      rwa [Nat.one_mul, show ((b + 1 : Nat) : Int) = (b : Int) + 1 from by omega] at this
    have HR : Hid (b ≤ 31 → ∀ w', FSt B x P1 w' → Tin w' r → Calls Try.prog 30 #[.pointer pr, .agg #[.int .u32 ((a + 2 ^ (31 - b) : Nat) : Int), .int .i64 ((b : Int) + 1)], .func (.func 32) #[] #[.pointer (some ⟨B, 0, none⟩), .pointer (some ⟨B + 2, 0, none⟩), .pointer (some ⟨B + 3, 0, none⟩), .pointer (some ⟨B + 4, 0, none⟩)]] w' fun e w'' => e = .returned (.tuple #[]) ∧ FSt B x P2 w'' ∧ Kp (FB B) w' w'') := by
      intro h31 w' h1 h2
      have hh := two_half b h31
      have hpp := Nat.two_pow_pos (31 - b)
      have := ihr (a + 2 ^ (31 - b)) (b + 1) P1 w' h2 (fun j hj => hB j (by simp [blocks, hj])) hfr (by omega) (by omega) (by rw [e1]; exact (mod_half h31 hm).2) (by rw [e1]; omega) h1
      rwa [hpr, hP2, show ((b + 1 : Nat) : Int) = (b : Int) + 1 from by omega] at this
    have hpl := Lib.hid hpl
    have hpr := Lib.hid hpr
    generalize a + 2 ^ (31 - b) = a2 at *
    clear ihl ihr hP0 hP1 hP2 hroot hin hB hfl hfr hm hs e1 hS hi hf0
    go_enter Try.func30, Try.ntmps30
    go_wp2_with fail
    refine HV.out.mono ?_; rintro e w1 ⟨rfl, hS0, hg0⟩
    have HS0 := Lib.hid hS0
    obtain ⟨r0, rb⟩ := RT.out w1 hg0
    obtain ⟨c0, c1, c2, c3⟩ := node_cells r0
    clear r0 rb hS0
    go_wp2_with fail
    go_loopw [21] (fun i W => ∃ (j : Nat), j ≤ 2 ∧ i = .int .i64 j ∧ FSt B x (if j = 0 then P0 else if j = 1 then P1 else P2) W ∧ Kp (FB B) (w.alloc (.cells #[.int .u32 (a : Int), .int .i64 (b : Int)] 34)) W) (fun i _ => 2 - (intOf i).toNat)
    case atStart => exact ⟨0, by omega, rfl, HS0.out, hg0⟩
    case round =>
      obtain ⟨j, hj, rfl, hS1, hg1⟩ := hrel
      obtain ⟨r0, rb⟩ := RT.out wr hg1
      obtain ⟨c0, c1, c2, c3⟩ := node_cells r0
      obtain ⟨b0, b1, _, _⟩ := two_cells rb
      have S1 := Lib.hid hS1
      clear r0 rb hS1
      have ix0 := idx0
      have ix1 := idx1
      rcases (show j = 0 ∨ j = 1 ∨ j = 2 by omega) with rfl | rfl | rfl
      · cases pl with
        | none =>
          have hx : l = .nil := ptr_none hpl.out
          have hS' : FSt B x P1 wr := by
            have := HLN.out hx
            rw [this]; exact S1.out
          have HS' := Lib.hid hS'
          clear hS' hx
          go_wp2_with fail
          go_roundw
          case rel => exact ⟨1, by omega, rfl, (by show FSt B x P1 _; exact HS'.out), hg1⟩
          case measure => simp [intOf]
        | some ad =>
          have hb31 : b ≤ 31 := HLB.out (by intro hx; rw [hx] at hpl; exact absurd hpl.out (by simp [ptrOf]))
          go_wp2_with fail
          refine (G0.out hb31 _).mono ?_; rintro e w2 ⟨rfl, hb2⟩
          go_wp2_with fail
          refine (HL.out hb31 _ (S1.out.on hb2) (TL0.out _ (hg1.trans (Kp.ofBelow (bs := FB B) hb2) (fun x hx => Or.inl hx)))).mono ?_; rintro e w3 ⟨rfl, hS3, hg3⟩
          have HS3 := Lib.hid hS3
          clear hS3
          go_wp2_with fail
          go_roundw
          case rel => exact ⟨1, by omega, rfl, HS3.out, (hg1.trans (Kp.ofBelow (bs := FB B) hb2) (fun x hx => Or.inl hx)).trans hg3 (fun x hx => Or.inl hx)⟩
          case measure => simp [intOf]
      · cases pr with
        | none =>
          have hx : r = .nil := ptr_none hpr.out
          have hS' : FSt B x P2 wr := by
            have := HRN.out hx
            rw [this]; exact S1.out
          have HS' := Lib.hid hS'
          clear hS' hx
          go_wp2_with fail
          go_roundw
          case rel => exact ⟨2, by omega, rfl, (by show FSt B x P2 _; exact HS'.out), hg1⟩
          case measure => simp [intOf]
        | some ad =>
          have hb31 : b ≤ 31 := HRB.out (by intro hx; rw [hx] at hpr; exact absurd hpr.out (by simp [ptrOf]))
          go_wp2_with fail
          refine (G1.out hb31 _).mono ?_; rintro e w2 ⟨rfl, hb2⟩
          go_wp2_with fail
          refine (HR.out hb31 _ (S1.out.on hb2) (TL1.out _ (hg1.trans (Kp.ofBelow (bs := FB B) hb2) (fun x hx => Or.inl hx)))).mono ?_; rintro e w3 ⟨rfl, hS3, hg3⟩
          have HS3 := Lib.hid hS3
          clear hS3
          go_wp2_with fail
          go_roundw
          case rel => exact ⟨2, by omega, rfl, HS3.out, (hg1.trans (Kp.ofBelow (bs := FB B) hb2) (fun x hx => Or.inl hx)).trans hg3 (fun x hx => Or.inl hx)⟩
          case measure => simp [intOf]
      · go_wp2_with fail
        go_end0
        exact ⟨rfl, by rw [HE.out]; exact S1.out, (Kp.ofBelow (bs := FB B) hbx).trans hg1 (fun x hx => Or.inl hx)⟩

theorem hnew (w : World) (o : Obj) (k : Nat) (h : k = w.heap.size) : (w.alloc o).heap[k]? = some o := by subst h; exact heap_alloc_new w o

set_option maxHeartbeats 2000000 in
/-- The way of the longest prefix that has x. -/
theorem find_any (tb x : Nat) (bs : List Nat) (L : List Ent) (w : World) (hx : x < 4294967296) (h : Tbl w tb bs L) :
    Calls Try.prog 18 #[.pointer (some ⟨tb, 0, none⟩), .int .u32 x] w fun e w' => e = .returned (.tuple #[.int .i64 (fV (findF x none L)), .agg #[.int .u32 (fA (findF x none L) : Nat), .int .i64 (fB (findF x none L) : Nat)], .bool (findF x none L).isSome]) ∧ Below w.heap.size w w' := by
  have hmf : ∀ (fn : Fn) (first cap : Array Value) (w : World), (Instr.makeFunc fn first cap).run Try.prog w = .ok (.func fn first cap) w := fun _ _ _ _ => rfl
  obtain ⟨t, rfl, hroot, hin, hnd, hf, hL, hlen⟩ := h
  obtain ⟨p0, hp0⟩ := ptr_form t
  rw [hp0] at hroot
  have htl := lt_of_block hroot
  obtain ⟨t0, t1, t2, t3⟩ := two_cells hroot
  have m1 : tb < w.heap.size + 1 := by omega
  have m2 : tb < w.heap.size + 1 + 1 := by omega
  have m3 : tb < w.heap.size + 1 + 1 + 1 := by omega
  have m4 : tb < w.heap.size + 1 + 1 + 1 + 1 := by omega
  have hb5 : Below w.heap.size w (((((w.alloc (.cells #[.int .u32 (x : Int)] 32)).alloc (.cells #[.int .u32 0, .int .i64 0] 34)).alloc (.cells #[.int .i64 0] 3)).alloc (.cells #[.int .u32 0, .int .i64 0] 34)).alloc (.cells #[.bool false] 4)) := (((((Below.refl _ _).alloc (Nat.le_refl _) _).alloc (by simp) _).alloc (by simp; omega) _).alloc (by simp; omega) _).alloc (by simp; omega) _
  generalize hR : findF x none L = R
  have HW : Hid (Calls Try.prog 30 #[.pointer p0, .agg #[.int .u32 0, .int .i64 0], .func (.func 32) #[] #[.pointer (some ⟨w.heap.size, 0, none⟩), .pointer (some ⟨w.heap.size + 1 + 1, 0, none⟩), .pointer (some ⟨w.heap.size + 1 + 1 + 1, 0, none⟩), .pointer (some ⟨w.heap.size + 1 + 1 + 1 + 1, 0, none⟩)]] (((((w.alloc (.cells #[.int .u32 (x : Int)] 32)).alloc (.cells #[.int .u32 0, .int .i64 0] 34)).alloc (.cells #[.int .i64 0] 3)).alloc (.cells #[.int .u32 0, .int .i64 0] 34)).alloc (.cells #[.bool false] 4)) fun e w' => e = .returned (.tuple #[]) ∧
      (w'.cell? ⟨w.heap.size + 1 + 1, 0, none⟩ = some (.int .i64 (fV R)) ∧ w'.cell? ⟨w.heap.size + 1 + 1 + 1, 0, none⟩ = some (.int .u32 (fA R : Nat)) ∧ w'.cell? ⟨w.heap.size + 1 + 1 + 1, 1, none⟩ = some (.int .i64 (fB R : Nat)) ∧ w'.cell? ⟨w.heap.size + 1 + 1 + 1 + 1, 0, none⟩ = some (.bool R.isSome)) ∧
      (w'.cell? ⟨w.heap.size + 1, 0, none⟩ = some (.int .u32 0) ∧ w'.cell? ⟨w.heap.size + 1, 1, none⟩ = some (.int .i64 0) ∧ w'.frozen? ⟨w.heap.size + 1, 0, none⟩ = false ∧ w'.frozen? ⟨w.heap.size + 1, 1, none⟩ = false) ∧ w.heap.size + 1 < w'.heap.size ∧ Hid (Below w.heap.size w w')) := by
    have hS : FSt w.heap.size x none (((((w.alloc (.cells #[.int .u32 (x : Int)] 32)).alloc (.cells #[.int .u32 0, .int .i64 0] 34)).alloc (.cells #[.int .i64 0] 3)).alloc (.cells #[.int .u32 0, .int .i64 0] 34)).alloc (.cells #[.bool false] 4)) := by
      refine ⟨?_, ?_, ?_, ?_⟩
      · rw [Below.heap_alloc _ _ _ (by simp <;> omega), Below.heap_alloc _ _ _ (by simp <;> omega), Below.heap_alloc _ _ _ (by simp <;> omega), Below.heap_alloc _ _ _ (by simp), hnew _ _ _ rfl]
      · rw [Below.heap_alloc _ _ _ (by simp <;> omega), Below.heap_alloc _ _ _ (by simp), hnew _ _ _ (by simp)]; rfl
      · rw [Below.heap_alloc _ _ _ (by simp), hnew _ _ _ (by simp)]; rfl
      · rw [hnew _ _ _ (by simp)]; rfl
    have := walkFind_any w.heap.size x hx t 0 0 none (((((w.alloc (.cells #[.int .u32 (x : Int)] 32)).alloc (.cells #[.int .u32 0, .int .i64 0] 34)).alloc (.cells #[.int .i64 0] 3)).alloc (.cells #[.int .u32 0, .int .i64 0] 34)).alloc (.cells #[.bool false] 4)) (hin.below hb5 hin.lt) hin.lt hf (by omega) (by omega) (by simp) (by simp) hS
    rw [hp0, hL, hR] at this
    refine Calls.mono this ?_
    rintro e w' ⟨rfl, hS', hk⟩
    have hb : Below w.heap.size w w' := hb5.trans (hk.below (B := w.heap.size) (by simp <;> omega) (by simp [FB]))
    have hr : w'.heap[w.heap.size + 1]? = some (.cells #[.int .u32 0, .int .i64 0] 34 (0, 0)) := by
      rw [hk.block _ (by simp <;> omega) (by simp [FB])]
      rw [Below.heap_alloc _ _ _ (by simp <;> omega), Below.heap_alloc _ _ _ (by simp <;> omega), Below.heap_alloc _ _ _ (by simp), hnew _ _ _ (by simp)]
    exact ⟨rfl, ⟨cell_of_one hS'.via, (two_cells hS'.best).1, (two_cells hS'.best).2.1, cell_of_one hS'.found⟩, two_cells hr, lt_of_block hr, hb⟩
  clear hroot hp0 hL hR hin hnd hf
  go_enter Try.func18, Try.ntmps18
  go_wp2_with fail
  refine HW.out.mono ?_; rintro e w1 ⟨rfl, ⟨k0, k1, k2, k3⟩, ⟨r0, r1, r2, r3⟩, hz, G⟩
  go_wp2_with fail
  go_region
  all_goals
    go_wp2_with fail
    exact bodyPost_ret (v := .tuple #[.int .i64 (fV R), .agg #[.int .u32 (fA R : Nat), .int .i64 (fB R : Nat)], .bool R.isSome]) (by simp [results, Try.results18, go_sem, r0, r1]) rfl ⟨rfl, ((G.out.setCell (by simp) _).setCell (by simp) _).drew⟩
end Go.Proofs.Ytchmfbfijglokaa
