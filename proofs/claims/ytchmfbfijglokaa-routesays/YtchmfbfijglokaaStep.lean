/-
  Contracts of Rest and of a step's Of (the document's package), and of routes: a table of steps.
-/
import Derived.Test.YtchmfbfijglokaaDrop
import Derived.Test.YtchmfbfijglokaaFind
import Derived.Deep.MidRow
import Derived.Deep.WholeRow
namespace Go.Proofs.Ytchmfbfijglokaa
open Go.RowKit
set_option linter.unusedVariables false

/-- What is left of n by m, from 0 on. -/
def restV (n m : Int) : Int := if n.tmod m < 0 then n.tmod m + m else n.tmod m
theorem rest_any (n m : Int) (w : World) (hm : 0 < m) (hm2 : m ≤ 1000) (h1 : -9223372036854775808 ≤ n) (h2 : n ≤ 9223372036854775807) :
    Calls Try.prog 25 #[.int .i64 n, .int .i64 m] w fun e w' => e = .returned (.int .i64 (restV n m)) ∧ w' = w := by
  have hlt := Int.tmod_lt_of_pos n hm
  have hgt : -m < n.tmod m := by
    have := Int.tmod_lt_of_pos (-n) hm
    rw [Int.neg_tmod] at this
    omega
  have hne : (m == 0) = false := by simp; omega
  by_cases h : n.tmod m < 0
  · have HR : Hid (restV n m = n.tmod m + m) := by show _ = _; unfold restV; rw [if_pos h]
    go_enter Try.func25, Try.ntmps25
    go_wp2
    go_ret
    exact ⟨ret_int HR.out.symm, rfl⟩
  · have HR : Hid (restV n m = n.tmod m) := by show _ = _; unfold restV; rw [if_neg h]
    go_enter Try.func25, Try.ntmps25
    go_wp2
    go_ret
    exact ⟨ret_int HR.out.symm, rfl⟩

theorem info46 : (Try.prog.info? 46).map (·.size) = some 45 := by kernel_rfl
theorem of_any (cs : Array Value) (kind m : Int) (w : World) (hc : cs.size = 45) (h0 : cs[0]? = some (.int .i64 kind)) (hm : 0 < m) (hm2 : m ≤ 1000) (h1 : -9223372036854775808 ≤ kind) (h2 : kind ≤ 9223372036854775807) :
    Calls Try.prog 11 #[.agg cs, .int .i64 m] w fun e w' => e = .returned (.int .i64 (restV kind m)) ∧ Below w.heap.size w w' := by
  have HR : Hid (∀ w', Calls Try.prog 25 #[.int .i64 kind, .int .i64 m] w' fun e w'' => e = .returned (.int .i64 (restV kind m)) ∧ w'' = w') := fun w' => rest_any kind m w' hm hm2 h1 h2
  have hcell : (w.alloc (.cells cs 46)).cell? ⟨w.heap.size, 0, none⟩ = some (.int .i64 kind) := by
    rw [Joins.cell_of_block (heap_alloc_new w _)]; exact h0
  go_enter Try.func11, Try.ntmps11
  go_wp2_with fail
  refine (HR.out _).mono ?_; rintro e w1 ⟨rfl, rfl⟩
  go_wp2_with fail
  go_ret
  exact ⟨rfl, (Below.refl _ _).alloc (Nat.le_refl _) _⟩

/-- What a statement takes of a step: its kind, its number, its prefix. -/
structure Stp where
  kind : Int
  num : Int
  pa : Nat
  pb : Int
/-- A step's cells. -/
structure StpCells (cs : List Value) (s : Stp) : Prop where
  len : cs.length = 45
  one : ∀ v ∈ cs, v.oneCell' = true
  c0 : cs[0]? = some (.int .i64 s.kind)
  c1 : cs[1]? = some (.int .i64 s.num)
  c5 : cs[5]? = some (.int .u32 (s.pa : Int))
  c6 : cs[6]? = some (.int .i64 s.pb)
  k1 : -9223372036854775808 ≤ s.kind
  k2 : s.kind ≤ 9223372036854775807
  pa : s.pa < 4294967296
/-- The steps of a slice lie in memory. -/
def StepsAt (w : World) (b off len : Nat) (C : Nat → List Value) (S : Nat → Stp) : Prop := ∀ i, i < len → w.rangeAt b (off + i * 45) (C i) ∧ StpCells (C i) (S i)

/-- A whole struct goes into the block that was made last. -/
theorem wpList_store_last {P : Program} {ops : Array Oper} {rest : List Oper} {op : Oper} {a : Act} {w : World} {Q : Exit → Act → World → Prop} (hgd : op.guard = none) (ty : TypeId) (x y : Operand) (ho : op.op = .store ty x y)
    (w0 : World) (c c' : Array Value) (hw : w = w0.alloc (.cells c ty)) (hx : a.eval x = .pointer (some ⟨w0.heap.size, 0, none⟩)) (hy : a.eval y = .agg c') (hi : (P.info? ty).map (·.size) = some c'.size) (hs : c.size = c'.size) (h1 : c'.all (·.oneCell') = true)
    (h : wpList P ops Q rest (a.put op.dst undef) (w0.alloc (.cells c' ty))) : wpList P ops Q (op :: rest) a w :=
  wpList_plain hgd fun K hK => by
    unfold Oper.wp execOp
    simp only [ho, hx, hy, Sem.run_bind]
    rw [hw, run_storeAt_new w0 ty c c' hi hs h1]
    exact hK _ _ h
theorem range_last (w : World) (cs : List Value) (t : TypeId) : (w.alloc (.cells cs.toArray t)).rangeAt w.heap.size 0 cs := fun j v hv => by
  rw [Joins.cell_of_block (heap_alloc_new w _)]; simpa using hv

set_option maxHeartbeats 2000000 in
set_option maxRecDepth 100000 in
theorem routes_any (o : Option Addr) (b off len cap : Nat) (C : Nat → List Value) (S : Nat → Stp) (w : World) (hb : 0 < len → o = some ⟨b, off, none⟩ ∧ b < w.heap.size) (hS : StepsAt w b off len C S) (hlen : len ≤ maxLen) :
    Calls Try.prog 20 #[.slice o len cap] w fun e w' => ∃ tb bs L, e = .returned (.pointer (some ⟨tb, 0, none⟩)) ∧ Tbl w' tb bs L ∧ Below w.heap.size w w' ∧ ∀ k ∈ bs, w.heap.size ≤ k := by
  unfold maxLen at hlen
  have HN : Hid (∀ w', Calls Try.prog 9 #[] w' fun e w'' => e = .returned (.pointer (some ⟨w'.heap.size, 0, none⟩)) ∧ Tbl w'' w'.heap.size [w'.heap.size] [] ∧ Below w'.heap.size w' w'') := new_any
  have HA : Hid (∀ (tb : Nat) (bs : List Nat) (L : List Ent) (w' : World), Tbl w' tb bs L → Calls Try.prog 10 #[.pointer (some ⟨tb, 0, none⟩), .agg #[.int .u32 0, .int .i64 33], .int .i64 0] w' fun e w'' => e = .returned (.int .i64 1) ∧ ∃ bs', Tbl w'' tb bs' L ∧ Kp bs w' w'' ∧ ∀ k ∈ bs', k ∈ bs ∨ w'.heap.size ≤ k) := fun tb bs L w' h => by
    have := add_any tb bs L 0 33 0 w' (by omega) h
    have e1 : addC L 0 33 = 1 := by unfold addC chk; simp
    have e2 : addL L 0 33 0 = L := by unfold addL; rw [e1]; simp
    rwa [e1, e2] at this
  have HB0 := Lib.hid hb
  have HS0 := Lib.hid hS
  clear hb hS
  go_enter Try.func20, Try.ntmps20
  go_wp2_with fail
  refine (HN.out _).mono ?_; rintro e w1 ⟨rfl, T1, hb1⟩
  have T1 := Lib.hid T1
  go_wp2_with fail
  refine (HA.out _ _ _ _ T1.out).mono ?_; rintro e w2 ⟨rfl, bs2, hT2, hk2, hs2⟩
  have T2 := Lib.hid hT2
  clear hT2
  have h02 : Below w.heap.size w w2 := hb1.trans (hk2.below hb1.size (by simp))
  have hs2' : ∀ k ∈ bs2, w.heap.size ≤ k := fun k hk => by
    rcases hs2 k hk with h | h
    · simp at h; omega
    · have := hb1.size; omega
  go_wp2_with fail
  go_loopw [17] (fun i W => ∃ (k : Nat) (bs : List Nat) (L : List Ent), k ≤ len ∧ i = .int .i64 k ∧ Tbl W w.heap.size bs L ∧ Below w.heap.size w W ∧ ∀ j ∈ bs, w.heap.size ≤ j) (fun i _ => len - (intOf i).toNat)
  case atStart => exact ⟨0, bs2, [], Nat.zero_le _, rfl, T2.out, h02, hs2'⟩
  case round =>
    obtain ⟨k, bs, L, hk, rfl, hT, hbel, hbs⟩ := hrel
    have T := Lib.hid hT
    clear hT
    by_cases hlt : k < len
    · obtain ⟨ho, hb⟩ := HB0.out (by omega)
      subst ho
      obtain ⟨hr, hcs⟩ := HS0.out k hlt
      have hsz := hbel.size
      have hr' : wr.rangeAt b (off + k * 45) (C k) := fun j v hv => by
        rw [hbel.cell (p := ⟨b, off + k * 45 + j, none⟩) hb]; exact hr j v hv
      have hi46 : (Try.prog.info? 46).map (·.size) = some (C k).length := by rw [hcs.len]; exact info46
      have h45 : 45 = (C k).toArray.size := by simp [hcs.len]
      have hi46' : (Try.prog.info? 46).map (·.size) = some (C k).toArray.size := by rw [← h45]; exact info46
      have hone := all_oneCell_toArray hcs.one
      generalize C k = cs at *
      generalize S k = s at *
      have HC := Lib.hid hcs
      have HR := Lib.hid hr'
      have HI := Lib.hid hi46
      have HI' := Lib.hid hi46'
      have H45 := Lib.hid h45
      have H1 := Lib.hid hone
      have HO : Hid (∀ w', Calls Try.prog 11 #[.agg cs.toArray, .int .i64 4] w' fun e w'' => e = .returned (.int .i64 (restV s.kind 4)) ∧ Below w'.heap.size w' w'') := fun w' => of_any cs.toArray s.kind 4 w' h45.symm (by simpa using hcs.c0) (by omega) (by omega) hcs.k1 hcs.k2
      have HD : Hid (∀ (bs : List Nat) (L : List Ent) (w' : World), Tbl w' w.heap.size bs L → Calls Try.prog 13 #[.pointer (some ⟨w.heap.size, 0, none⟩), .agg #[.int .u32 s.pa, .int .i64 s.pb]] w' fun e w'' => ∃ (bs' : List Nat) (L' : List Ent) (c : Int), e = .returned (.int .i64 c) ∧ Tbl w'' w.heap.size bs' L' ∧ Kp bs w' w'' ∧ ∀ k ∈ bs', k ∈ bs ∨ w'.heap.size ≤ k) := fun bs L w' h => by
        refine (drop_any w.heap.size bs L s.pa s.pb w' hcs.pa h).mono ?_
        rintro e w'' ⟨rfl, bs', h1, h2, h3⟩
        exact ⟨bs', _, _, rfl, h1, h2, h3⟩
      have HE : Hid (∀ (bs : List Nat) (L : List Ent) (w' : World), Tbl w' w.heap.size bs L → Calls Try.prog 10 #[.pointer (some ⟨w.heap.size, 0, none⟩), .agg #[.int .u32 s.pa, .int .i64 s.pb], .int .i64 s.num] w' fun e w'' => ∃ (bs' : List Nat) (L' : List Ent) (c : Int), e = .returned (.int .i64 c) ∧ Tbl w'' w.heap.size bs' L' ∧ Kp bs w' w'' ∧ ∀ k ∈ bs', k ∈ bs ∨ w'.heap.size ≤ k) := fun bs L w' h => by
        refine (add_any w.heap.size bs L s.pa s.pb s.num w' hcs.pa h).mono ?_
        rintro e w'' ⟨rfl, bs', h1, h2, h3⟩
        exact ⟨bs', _, _, rfl, h1, h2, h3⟩
      clear hcs hr hr' hi46 hi46' hone h45
      go_wp2_with (first | (refine wpList_load_mid rfl 46 _ rfl b (off + k * 45) rfl cs _ HR.out Try.underlying46 rfl HI.out ?_) | (refine wpList_store_last rfl 46 _ _ rfl wr _ cs.toArray rfl rfl rfl HI'.out H45.out H1.out ?_) | (refine wpList_load_mid rfl 46 _ rfl wr.heap.size 0 rfl cs _ (range_last wr cs 46) Try.underlying46 rfl HI.out ?_))
      refine (HO.out _).mono ?_; rintro e w1 ⟨rfl, hb1⟩
      have bx := box_keep hb1
      have x1 : w1.cell? ⟨wr.heap.size, 1, none⟩ = some (.int .i64 s.num) := by rw [Joins.cell_of_block bx]; simpa using HC.out.c1
      have x5 : w1.cell? ⟨wr.heap.size, 5, none⟩ = some (.int .u32 (s.pa : Int)) := by rw [Joins.cell_of_block bx]; simpa using HC.out.c5
      have x6 : w1.cell? ⟨wr.heap.size, 6, none⟩ = some (.int .i64 s.pb) := by rw [Joins.cell_of_block bx]; simpa using HC.out.c6
      have h01 : Below wr.heap.size wr w1 := ((Below.refl _ _).alloc (Nat.le_refl _) _).trans (hb1.mono (by simp))
      have T1 : Hid (Tbl w1 w.heap.size bs L) := T.out.on h01
      have h1w : Below w.heap.size w w1 := hbel.trans (h01.mono hsz)
      have hs1 := h1w.size
      clear bx hb1
      generalize restV s.kind 4 = R at *
      by_cases hR : R = 0
      · subst hR
        go_wp2_with fail
        refine (HD.out _ _ _ T1.out).mono ?_; rintro e w3 ⟨bs3, L3, C3, rfl, hT3, hk3, hs3⟩
        have T3 := Lib.hid hT3
        clear hT3
        have h03 := h1w.trans (hk3.below hs1 hbs)
        have hbs3 : ∀ j ∈ bs3, w.heap.size ≤ j := fun j hj => by
          rcases hs3 j hj with h | h
          · exact hbs j h
          · omega
        go_wp2_with fail
        go_roundw
        case rel => exact ⟨k + 1, bs3, L3, by omega, by go_num, T3.out, h03, hbs3⟩
        case measure => simp [intOf]; omega
      · have hz : (R == 0) = false := by simpa using hR
        go_wp2_with fail
        refine (HE.out _ _ _ T1.out).mono ?_; rintro e w3 ⟨bs3, L3, C3, rfl, hT3, hk3, hs3⟩
        have T3 := Lib.hid hT3
        clear hT3
        have h03 := h1w.trans (hk3.below hs1 hbs)
        have hbs3 : ∀ j ∈ bs3, w.heap.size ≤ j := fun j hj => by
          rcases hs3 j hj with h | h
          · exact hbs j h
          · omega
        go_wp2_with fail
        go_roundw
        case rel => exact ⟨k + 1, bs3, L3, by omega, by go_num, T3.out, h03, hbs3⟩
        case measure => simp [intOf]; omega
    · go_wp2_with fail
      go_ret
      exact ⟨_, bs, L, rfl, T.out, hbel, hbs⟩
end Go.Proofs.Ytchmfbfijglokaa
