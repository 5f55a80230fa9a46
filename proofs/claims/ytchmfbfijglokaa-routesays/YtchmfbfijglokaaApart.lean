/-
  RouteApart, walked: whatever table of steps: what is added beside an address is of no matter for it.
-/
import Derived.Test.YtchmfbfijglokaaStep
import Derived.Test.YtchmfbfijglokaaLists
namespace Go.Proofs.Ytchmfbfijglokaa
open Go.RowKit
set_option linter.unusedVariables false

theorem StepsAt.on {w w' : World} {b off len : Nat} {C : Nat → List Value} {S : Nat → Stp} (h : StepsAt w b off len C S) (hb : b < w.heap.size ∨ len = 0) (hbel : Below w.heap.size w w') : StepsAt w' b off len C S := fun i hi => by
  obtain ⟨h1, h2⟩ := h i hi
  refine ⟨fun j v hv => ?_, h2⟩
  rw [hbel.cell (p := ⟨b, off + i * 45 + j, none⟩) (by show b < _; omega)]; exact h1 j v hv
/-- routes, wherever it is called. -/
theorem routes_at {o : Option Addr} {b off len : Nat} (cap : Nat) {C : Nat → List Value} {S : Nat → Stp} {w : World} (hb : 0 < len → o = some ⟨b, off, none⟩ ∧ b < w.heap.size) (hS : StepsAt w b off len C S) (hlen : len ≤ maxLen) (w' : World) (hbel : Below w.heap.size w w') :
    Calls Try.prog 20 #[.slice o len cap] w' fun e w'' => ∃ tb bs L, e = .returned (.pointer (some ⟨tb, 0, none⟩)) ∧ Tbl w'' tb bs L ∧ Below w'.heap.size w' w'' ∧ ∀ k ∈ bs, w'.heap.size ≤ k :=
  routes_any o b off len cap C S w' (fun h => ⟨(hb h).1, Nat.lt_of_lt_of_le (hb h).2 hbel.size⟩) (hS.on (by rcases Nat.eq_zero_or_pos len with h | h; exact Or.inr h; exact Or.inl (hb h).2) hbel) hlen

set_option maxHeartbeats 2000000 in
set_option maxRecDepth 100000 in
theorem apart_walk (o : Option Addr) (b off len cap : Nat) (C : Nat → List Value) (S : Nat → Stp) (pa x : Nat) (pb via : Int) (w : World) (hb : 0 < len → o = some ⟨b, off, none⟩ ∧ b < w.heap.size) (hS : StepsAt w b off len C S) (hlen : len ≤ maxLen) (hpa : pa < 4294967296) (hx : x < 4294967296) :
    Calls Try.prog 7 #[.slice o len cap, .agg #[.int .u32 pa, .int .i64 pb], .int .i64 via, .int .u32 x] w fun e w' => e = .returned (.bool true) ∧ Below w.heap.size w w' := by
  have HR := Lib.hid (routes_at cap hb hS hlen)
  have h0 : Below w.heap.size w (w.alloc (.cells #[.int .u32 (pa : Int), .int .i64 pb] 34)) := (Below.refl _ _).alloc (Nat.le_refl _) _
  have HH : Hid (∀ w', Calls Try.prog 21 #[.agg #[.int .u32 pa, .int .i64 pb], .int .u32 x] w' fun e w'' => e = .returned (.bool (has pa pb x)) ∧ Below w'.heap.size w' w'') := fun w' => has_any pa x pb w' hpa hx
  clear hb hS hlen
  go_enter Try.func7, Try.ntmps7
  go_wp2_with fail
  refine (HR.out _ h0).mono ?_; rintro e w1 ⟨tb, bs, L, rfl, hT1, hb1, hbs⟩
  have T1 := Lib.hid hT1
  have bx := box_keep hb1
  have h01 := h0.trans (hb1.mono (by simp))
  have HF : Hid (∀ L' bs' w', findF x none L' = findF x none L → Tbl w' tb bs' L' → Calls Try.prog 18 #[.pointer (some ⟨tb, 0, none⟩), .int .u32 x] w' fun e w'' => e = .returned (.tuple #[.int .i64 (fV (findF x none L)), .agg #[.int .u32 (fA (findF x none L) : Nat), .int .i64 (fB (findF x none L) : Nat)], .bool (findF x none L).isSome]) ∧ Below w'.heap.size w' w'') := fun L' bs' w' he ht => by
    have := find_any tb x bs' L' w' hx ht
    rwa [he] at this
  have HA : Hid (has pa pb x = false → findF x none (addL L pa pb via) = findF x none L) := find_add
  have HD : Hid (∀ bs w', Tbl w' tb bs L → Calls Try.prog 10 #[.pointer (some ⟨tb, 0, none⟩), .agg #[.int .u32 pa, .int .i64 pb], .int .i64 via] w' fun e w'' => e = .returned (.int .i64 (addC L pa pb)) ∧ ∃ bs', Tbl w'' tb bs' (addL L pa pb via) ∧ Kp bs w' w'' ∧ ∀ k ∈ bs', k ∈ bs ∨ w'.heap.size ≤ k) := fun bs w' h => add_any tb bs L pa pb via w' hpa h
  generalize fV (findF x none L) = v1 at HF
  generalize fA (findF x none L) = a1 at HF
  generalize fB (findF x none L) = b1 at HF
  generalize (findF x none L).isSome = f1 at HF
  generalize addC L pa pb = c1 at HD
  clear hT1
  go_wp2_with fail
  refine (HF.out _ _ _ rfl T1.out).mono ?_; rintro e w2 ⟨rfl, hb2⟩
  have h02 := h01.trans (hb2.mono h01.size)
  obtain ⟨b0, b1', _, _⟩ := two_cells ((hb2.block _ (lt_of_block bx)).trans bx)
  have hz2 : w.heap.size < w2.heap.size := by have := h02.size; have := lt_of_block bx; have := hb2.size; omega
  have T2 : Hid (Tbl w2 tb bs L) := T1.out.on hb2
  have bx2 := (hb2.block _ (lt_of_block bx)).trans bx
  cases hh : has pa pb x with
  | true =>
    rw [hh] at HH
    clear bx bx2 hh
    go_wp2_with fail
    refine (HH.out _).mono ?_; rintro e w3 ⟨rfl, hb3⟩
    go_wp2_with fail
    go_ret
    refine ⟨rfl, (h02.alloc h02.size _).trans (hb3.mono (by simp; omega))⟩
  | false =>
    rw [hh] at HH
    have HA := Lib.hid (HA.out hh)
    have BX2 := Lib.hid bx2
    clear bx bx2 hh
    go_wp2_with fail
    refine (HH.out _).mono ?_; rintro e w3 ⟨rfl, hb3⟩
    have bq := box_keep hb3
    have bp : w3.heap[w.heap.size]? = some (.cells #[.int .u32 (pa : Int), .int .i64 pb] 34 (0, 0)) := by
      rw [hb3.block _ (by simp; omega), Below.heap_alloc _ _ _ hz2]; exact BX2.out
    obtain ⟨p0, p1, _, _⟩ := two_cells bp
    have h23 : Below w2.heap.size w2 w3 := ((Below.refl _ _).alloc (Nat.le_refl _) _).trans (hb3.mono (by simp))
    have T3 : Hid (Tbl w3 tb bs L) := T2.out.on h23
    have h03 := h02.trans (h23.mono h02.size)
    have BQ := Lib.hid bq
    clear bp bq
    go_wp2_with fail
    refine (HD.out _ _ T3.out).mono ?_; rintro e w4 ⟨rfl, bs4, hT4, hk4, hs4⟩
    have T4 := Lib.hid hT4
    have h04 := h03.trans (hk4.below h03.size (fun k hk => by have := hbs k hk; have := h0.size; omega))
    have q4 : w4.heap[w2.heap.size]? = some (.cells #[.int .u32 (a1 : Int), .int .i64 (b1 : Int)] 34 (0, 0)) := by
      rw [hk4.block _ (lt_of_block BQ.out) (fun hm => by have := T2.out.lt _ hm; omega)]; exact BQ.out
    have Q4 := Lib.hid q4
    clear hT4 q4
    go_wp2_with fail
    refine (HF.out _ _ _ HA.out T4.out).mono ?_; rintro e w5 ⟨rfl, hb5⟩
    obtain ⟨q0, q1, _, _⟩ := two_cells ((hb5.block _ (lt_of_block Q4.out)).trans Q4.out)
    have hz5 : w2.heap.size < w5.heap.size := by have := lt_of_block Q4.out; have := hb5.size; omega
    have h05 := h04.trans (hb5.mono h04.size)
    go_wp2_with fail
    go_ret
    exact ⟨rfl, h05.alloc h05.size _⟩
end Go.Proofs.Ytchmfbfijglokaa
