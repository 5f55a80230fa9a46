/-
  Contracts of the document's last, cover and Cover.
-/
import Derived.Test.YthdmbggpokaggaaDoorCov
import Derived.Laws.OwnMore
import Derived.Deep.RegionHeld3
import Derived.Deep.QuietTactic
import Derived.BigQuiet
import Derived.WalkSmall
import Derived.Deep.CutRange
import Derived.Deep.RegionWith
import Derived.Deep.DrawnRows
namespace Go.Proofs.YthdmbggpokaggaaDoor
open Go.RowKit
set_option linter.unusedVariables false
attribute [local go_sem ↓] Go.wp_at_zero Go.wp_at_succ

theorem pow_top (b : Nat) : 2 ^ (32 - b) ≤ 4294967296 := (Nat.pow_le_pow_right (n := 2) (i := 32 - b) (j := 32) (by omega) (by omega))
theorem last_any (a b : Nat) (w : World) (ha : a < 4294967296) (hb : b ≤ 32) :
    Calls Tryd.prog 33 #[.agg #[.int .u32 a, .int .i64 b]] w fun e w' => e = .returned (.int .u64 ((a : Int) + ((2 ^ (32 - b) : Nat) : Int) - 1)) ∧ Below w.heap.size w w' := by
  have hS : IntKind.u64.wrap ((2 : Int) ^ (32 - b)) = ((2 ^ (32 - b) : Nat) : Int) := by
    have := pow_top b
    have e2 : (2 : Int) ^ (32 - b) = ((2 ^ (32 - b) : Nat) : Int) := by simp
    rw [e2]
    generalize (2 ^ (32 - b) : Nat) = S at *
    rw [IntKind.wrap_u64]; omega
  have h1 := pow_top b
  have h2 := Nat.two_pow_pos (32 - b)
  have hb2 : (b : Int) ≤ 32 := by omega
  generalize (2 ^ (32 - b) : Nat) = S at *
  go_enter Tryd.func33, Tryd.ntmps33
  go_wp2
  go_quiet (fail)
  go_wp2
  go_ret
  exact ⟨rfl, below_drewN ((Below.refl _ _).alloc (Nat.le_refl _) _) _⟩

/-- 'append(v, u...)' of two rows of the call's own, whatever they hold. -/
theorem append_both {P : Program} (w : World) (t ty : TypeId) (base base2 : Nat) (e : TypeId) (i : TypeInfo) (z : Value) (size bytes : Nat) (ht : P.underlying t = some (.slice e)) (hi : P.info? e = some i) (hz : i.zero = some z)
    (hsize : i.size = size) (hby : i.bytes = bytes) (hzs : z.cells.size = size) (hsz : 0 < size)
    (v u : Value) (n m : Nat) (xs ys : List Value) (hown : w.ownsRow base e size v n xs) (hown2 : w.ownsRow base2 e size u m ys) (h1 : ∀ c ∈ ys, c.oneCell' = true)
    (h63 : n + m ≤ maxLen) (hbytes : (n + m) * bytes ≤ 140737488355328) (hbase : base ≤ w.heap.size) :
    ∃ v' w', (Builtin.append_ #[t, t] ty #[v, u]).run P w = .ok v' w' ∧ w'.ownsRow base e size v' (n + m) (xs ++ ys) ∧ w.grownBy w' v.ownBlock := by
  rcases hown2.2 with ⟨rfl, rfl⟩ | ⟨g, cap, cur, rfl, hb, hg, hmc, hcm, hcs, htk⟩
  · have hy : ys = [] := by have := hown2.1; simpa using this
    subst hy
    refine ⟨v, w, run_append_owned_none (P := P) (w := w) base t ty e i size ht hi v n xs hown, by simpa using hown, ⟨rfl, rfl, rfl, Nat.le_refl _, fun _ _ _ => rfl⟩⟩
  · obtain ⟨v', w', h1', h2', h3', _⟩ := run_append_own (P := P) (w := w) base t ty e i z size bytes ht hi hz hsize hby hzs hsz v n xs hown ⟨g, 0, none⟩ m cap ys hown2.1 (hown2.cells rfl) h1 h63 hbytes hbase
    exact ⟨v', w', h1', h2', h3'⟩
theorem step_both {P : Program} (w : World) {ops : Array Oper} {o : Oper} {a : Act} {K : Act → World → Prop} {Q : Exit → Act → World → Prop} {E : Prop} (hgd : o.guard = none) (s x : Operand) (t : TypeId)
    (ho : o.op = .call { callee := .builtin .append, args := #[s, x], argTypes := #[t, t] }) (base base2 : Nat) (e : TypeId) (i : TypeInfo) (z : Value) (size bytes : Nat) (ht : P.underlying t = some (.slice e)) (hi : P.info? e = some i) (hz : i.zero = some z)
    (hsize : i.size = size) (hby : i.bytes = bytes) (hzs : z.cells.size = size) (hsz : 0 < size)
    (v u : Value) (n m : Nat) (xs ys : List Value) (hs : a.eval s = v) (hx : a.eval x = u) (hown : w.ownsRow base e size v n xs) (hown2 : w.ownsRow base2 e size u m ys) (h1 : ∀ c ∈ ys, c.oneCell' = true)
    (h63 : n + m ≤ maxLen) (hbytes : (n + m) * bytes ≤ 140737488355328) (hbase : base ≤ w.heap.size)
    (h : ∀ v' w', w'.ownsRow base e size v' (n + m) (xs ++ ys) → w.grownBy w' v.ownBlock → K (a.put o.dst v') w') :
    if Region.wanted o (yielded ops a.tmps) = true then Oper.wp P o a w K Q else E := by
  have hw : Region.wanted o (yielded ops a.tmps) = true := by simp [Region.wanted, hgd]
  rw [if_pos hw]
  obtain ⟨v', w', hr, h2, h3⟩ := append_both (P := P) w t o.type base base2 e i z size bytes ht hi hz hsize hby hzs hsz v u n m xs ys hown hown2 h1 h63 hbytes hbase
  unfold Oper.wp execOp
  simp only [ho, resolve, invoke, builtin, Sem.run_bind, Sem.run_pure, Result.andThen_ok, List.map_toArray, List.map_cons, List.map_nil, hs, hx, hr]
  exact h v' w' h2 h3
theorem pcells_one (l : List (Nat × Nat)) : ∀ c ∈ pcells l, c.oneCell' = true := by
  induction l with
  | nil => intro c hc; cases hc
  | cons x l ih =>
    obtain ⟨a, b⟩ := x
    intro c hc
    simp only [pcells, List.mem_cons] at hc
    rcases hc with rfl | rfl | hc
    · rfl
    · rfl
    · exact ih c hc

theorem newB {W w3 : World} {u v : Value} (hb : Below (W.alloc (.cells #[u, v] 29)).drew.heap.size (W.alloc (.cells #[u, v] 29)).drew w3) :
    w3.cell? ⟨W.heap.size, 0, none⟩ = some u ∧ w3.cell? ⟨W.heap.size, 1, none⟩ = some v ∧ w3.frozen? ⟨W.heap.size, 0, none⟩ = false ∧ w3.frozen? ⟨W.heap.size, 1, none⟩ = false := by
  have hlt : W.heap.size < (W.alloc (.cells #[u, v] 29)).drew.heap.size := by show W.heap.size < (W.alloc (.cells #[u, v] 29)).heap.size; simp
  refine ⟨?_, ?_, ?_, ?_⟩
  · rw [hb.cell (p := ⟨W.heap.size, 0, none⟩) hlt]; simp [go_sem]
  · rw [hb.cell (p := ⟨W.heap.size, 1, none⟩) hlt]; simp [go_sem]
  · rw [hb.frozen (p := ⟨W.heap.size, 0, none⟩) hlt]; simp [go_sem]
  · rw [hb.frozen (p := ⟨W.heap.size, 1, none⟩) hlt]; simp [go_sem]

theorem closeB {W6 w3 w : World} (hb3 : Below W6.drew.heap.size W6.drew w3) (b03 : Below w.heap.size w W6) (z6 : w.heap.size < W6.heap.size) (u v : Value) :
    W6.heap.size ≤ w3.heap.size ∧ w3.heap.size < (w3.alloc (.cells #[u, v] 29)).heap.size ∧ (w3.alloc (.cells #[u, v] 29)).cell? ⟨w3.heap.size, 0, none⟩ = some u ∧ (w3.alloc (.cells #[u, v] 29)).cell? ⟨w3.heap.size, 1, none⟩ = some v ∧ Below w.heap.size w (w3.alloc (.cells #[u, v] 29)) := by
  have h1 : W6.heap.size ≤ w3.heap.size := hb3.size
  have h2 : Below w.heap.size w w3 := (b03.drew).trans (hb3.mono (by show w.heap.size ≤ W6.heap.size; omega))
  exact ⟨h1, by simp, by simp [go_sem], by simp [go_sem], h2.alloc (by omega) _⟩
theorem closeA {W6 w3 w : World} {x y : Value} (hb3 : Below (W6.alloc (.cells #[x, y] 29)).drew.heap.size (W6.alloc (.cells #[x, y] 29)).drew w3) (b03 : Below w.heap.size w W6) (z6 : w.heap.size < W6.heap.size) (u v : Value) :
    W6.heap.size ≤ W6.heap.size ∧ W6.heap.size < ((w3.setCell ⟨W6.heap.size, 0, none⟩ u).setCell ⟨W6.heap.size, 1, none⟩ v).heap.size ∧ ((w3.setCell ⟨W6.heap.size, 0, none⟩ u).setCell ⟨W6.heap.size, 1, none⟩ v).cell? ⟨W6.heap.size, 0, none⟩ = some u ∧ ((w3.setCell ⟨W6.heap.size, 0, none⟩ u).setCell ⟨W6.heap.size, 1, none⟩ v).cell? ⟨W6.heap.size, 1, none⟩ = some v ∧
      Below w.heap.size w ((w3.setCell ⟨W6.heap.size, 0, none⟩ u).setCell ⟨W6.heap.size, 1, none⟩ v) := by
  obtain ⟨e0, e1, _, _⟩ := newB hb3
  have h1 : (W6.alloc (.cells #[x, y] 29)).heap.size ≤ w3.heap.size := hb3.size
  have h2 : Below w.heap.size w w3 := ((b03.alloc (by omega) _).drew).trans (hb3.mono (by show w.heap.size ≤ (W6.alloc (.cells #[x, y] 29)).heap.size; simp; omega))
  have h3 : Below w.heap.size w ((w3.setCell ⟨W6.heap.size, 0, none⟩ u).setCell ⟨W6.heap.size, 1, none⟩ v) := (h2.setCell (p := ⟨W6.heap.size, 0, none⟩) (by show w.heap.size ≤ W6.heap.size; omega) u).setCell (p := ⟨W6.heap.size, 1, none⟩) (by show w.heap.size ≤ W6.heap.size; omega) v
  have k1 : (w3.setCell ⟨W6.heap.size, 0, none⟩ u).cell? ⟨W6.heap.size, 1, none⟩ = some y := by
    rw [World.cell?_setCell_other (w := w3) (h := fun h => by injection h with _ h2; cases h2)]; exact e1
  have c1 : ((w3.setCell ⟨W6.heap.size, 0, none⟩ u).setCell ⟨W6.heap.size, 1, none⟩ v).cell? ⟨W6.heap.size, 1, none⟩ = some v := World.cell?_setCell_same (w3.setCell ⟨W6.heap.size, 0, none⟩ u) ⟨W6.heap.size, 1, none⟩ v k1
  have c0 : ((w3.setCell ⟨W6.heap.size, 0, none⟩ u).setCell ⟨W6.heap.size, 1, none⟩ v).cell? ⟨W6.heap.size, 0, none⟩ = some u := by
    rw [World.cell?_setCell_other (w := w3.setCell ⟨W6.heap.size, 0, none⟩ u) (h := fun h => by injection h with _ h2; cases h2)]
    exact World.cell?_setCell_same w3 ⟨W6.heap.size, 0, none⟩ u e0
  refine ⟨Nat.le_refl _, ?_, c0, c1, h3⟩
  have := World.block_lt_of_cell? _ _ c0
  exact this

theorem own_mono {w : World} {B B' e size n : Nat} {v : Value} {xs : List Value} (h : w.ownsRow B e size v n xs) (hB : B' ≤ B) : w.ownsRow B' e size v n xs := by
  refine ⟨h.1, ?_⟩
  rcases h.2 with h2 | ⟨g, cap, cur, h1, h2, h3⟩
  · exact .inl h2
  · exact .inr ⟨g, cap, cur, h1, Nat.le_trans hB h2, h3⟩
theorem own_ne {w : World} {B e size n : Nat} {v : Value} {xs : List Value} (h : w.ownsRow B e size v n xs) (x : Nat) (hx : x < B) : some x ≠ v.ownBlock := fun hh => by
  have := (h.lt x hh.symm).1
  omega

theorem rcov_none (K a f t : Nat) (h : t < a ∨ a + 2 ^ K - 1 < f) : rcov K a f t = [] := by cases K <;> rw [rcov, if_pos h]
theorem rcov_all (K a f t : Nat) (h1 : ¬ (t < a ∨ a + 2 ^ K - 1 < f)) (h2 : f ≤ a ∧ a + 2 ^ K - 1 ≤ t) : rcov K a f t = [(a, 32 - K)] := by cases K <;> rw [rcov, if_neg h1, if_pos h2]
theorem rcov_len (k : Nat) : ∀ a f t, (rcov k a f t).length ≤ 2 ^ k := by
  induction k with
  | zero => intro a f t; rw [rcov]; split <;> (try split) <;> simp
  | succ k ih =>
    intro a f t
    rw [rcov]
    have h1 := ih a f t
    have h2 := ih (a + 2 ^ k) f t
    have hp := Nat.two_pow_pos k
    rw [Nat.pow_succ]
    split
    · simp
    · split
      · simp; omega
      · rw [List.length_append]; omega

set_option maxHeartbeats 4000000 in
theorem rcover_easy (K a f t : Nat) (w : World) (hk : K ≤ 32) (hd : 2 ^ K ∣ a) (h32 : a + 2 ^ K ≤ 4294967296) (hft : f ≤ t) (ht : t < 4294967296) (he : t < a ∨ a + 2 ^ K - 1 < f ∨ (f ≤ a ∧ a + 2 ^ K - 1 ≤ t)) :
    Calls Tryd.prog 35 #[.agg #[.int .u32 a, .int .i64 ((32 - K : Nat) : Int)], .int .u64 f, .int .u64 t] w fun e w' => ∃ v, e = .returned v ∧ w'.ownsRow w.heap.size 29 2 v (rcov K a f t).length (pcells (rcov K a f t)) ∧ Below w.heap.size w w' := by
  have hpk := Nat.two_pow_pos K
  have ha : a < 4294967296 := by omega
  have HL : Hid (∀ w', Calls Tryd.prog 33 #[.agg #[.int .u32 a, .int .i64 ((32 - K : Nat) : Int)]] w' fun e w'' => e = .returned (.int .u64 ((a : Int) + ((2 ^ K : Nat) : Int) - 1)) ∧ Below w'.heap.size w' w'') := fun w' => by
    have := last_any a (32 - K) w' ha (by omega)
    rwa [show 32 - (32 - K) = K from by omega] at this
  have b0 : Below w.heap.size w (w.alloc (.cells #[.int .u32 (a : Int), .int .i64 ((32 - K : Nat) : Int)] 29)) := (Below.refl _ _).alloc (Nat.le_refl _) _
  by_cases hA : t < a
  · have hR : rcov K a f t = [] := rcov_none K a f t (by omega)
    rw [hR]
    clear hd
    generalize ((32 - K : Nat) : Int) = B at *
    go_enter Tryd.func35, Tryd.ntmps35
    go_wp2
    go_ret
    exact ⟨_, rfl, World.ownsRow_nil _ _ _ _, b0⟩
  by_cases hB : a + 2 ^ K - 1 < f
  · have hR : rcov K a f t = [] := rcov_none K a f t (by omega)
    rw [hR]
    clear hd
    generalize (2 ^ K : Nat) = D at *
    generalize ((32 - K : Nat) : Int) = B at *
    go_enter Tryd.func35, Tryd.ntmps35
    go_wp2_with fail
    refine (HL.out _).mono ?_; rintro e w1 ⟨rfl, hb1⟩
    go_wp2
    go_ret
    exact ⟨_, rfl, World.ownsRow_nil _ _ _ _, b0.trans (hb1.mono (by simp))⟩
  by_cases hC : f ≤ a ∧ a + 2 ^ K - 1 ≤ t
  · have hR : rcov K a f t = [(a, 32 - K)] := rcov_all K a f t (by omega) hC
    rw [hR]
    obtain ⟨hC1, hC2⟩ := hC
    clear hd hR
    generalize (2 ^ K : Nat) = D at *
    generalize (32 - K : Nat) = B at *
    have hBi : ¬ ((a : Int) + (D : Int) - 1 < (f : Int)) := by omega
    have hCi : (a : Int) + (D : Int) - 1 ≤ (t : Int) := by omega
    have C0 : Hid (∀ w1, Below (w.alloc (.cells #[.int .u32 (a : Int), .int .i64 (B : Int)] 29)).heap.size (w.alloc (.cells #[.int .u32 (a : Int), .int .i64 (B : Int)] 29)) w1 → w1.cell? ⟨w.heap.size, 0, none⟩ = some (.int .u32 (a : Int)) ∧ w1.cell? ⟨w.heap.size, 1, none⟩ = some (.int .i64 (B : Int))) := fun w1 hb => by
      constructor
      · rw [hb.cell (p := ⟨w.heap.size, 0, none⟩) (by simp)]; simp [go_sem]
      · rw [hb.cell (p := ⟨w.heap.size, 1, none⟩) (by simp)]; simp [go_sem]
    go_enter Tryd.func35, Tryd.ntmps35
    go_wp2_with fail
    refine (HL.out _).mono ?_; rintro e w1 ⟨rfl, hb1⟩
    obtain ⟨c0, c1⟩ := C0.out _ hb1
    have hs1 : w.heap.size + 1 ≤ w1.heap.size := by have := hb1.size; simpa using this
    have b01 := b0.trans (hb1.mono (by simp))
    go_wp2_with fail
    refine (HL.out _).mono ?_; rintro e w2 ⟨rfl, hb2⟩
    have c2 : w2.cell? ⟨w.heap.size, 0, none⟩ = some (.int .u32 (a : Int)) := by rw [hb2.cell (p := ⟨w.heap.size, 0, none⟩) (by show w.heap.size < _; omega)]; exact c0
    have c3 : w2.cell? ⟨w.heap.size, 1, none⟩ = some (.int .i64 (B : Int)) := by rw [hb2.cell (p := ⟨w.heap.size, 1, none⟩) (by show w.heap.size < _; omega)]; exact c1
    have hs2 := hb2.size
    have b02 := b01.trans (hb2.mono (by omega))
    go_wp2
    go_ret
    refine ⟨_, rfl, World.ownsRow_lit w2 #[.int .u32 (a : Int), .int .i64 (B : Int)] 1 (by omega) (by unfold maxLen; omega) rfl, b02.alloc (by omega) _⟩
  · exact absurd he (by omega)

set_option maxHeartbeats 4000000 in
theorem rcover_any (k : Nat) : ∀ (a f t : Nat) (w : World), k ≤ 32 → 2 ^ k ∣ a → a + 2 ^ k ≤ 4294967296 → f ≤ t → t < 4294967296 →
    Calls Tryd.prog 35 #[.agg #[.int .u32 a, .int .i64 ((32 - k : Nat) : Int)], .int .u64 f, .int .u64 t] w fun e w' => ∃ v, e = .returned v ∧ w'.ownsRow w.heap.size 29 2 v (rcov k a f t).length (pcells (rcov k a f t)) ∧ Below w.heap.size w w' := by
  induction k with
  | zero =>
    intro a f t w hk hd h32 hft ht
    exact rcover_easy 0 a f t w hk hd h32 hft ht (by simp; omega)
  | succ k ih =>
    intro a f t w hk hd h32 hft ht
    by_cases he : t < a ∨ a + 2 ^ (k + 1) - 1 < f ∨ (f ≤ a ∧ a + 2 ^ (k + 1) - 1 ≤ t)
    · exact rcover_easy (k + 1) a f t w hk hd h32 hft ht he
    have hA : ¬ t < a := fun h => he (.inl h)
    have hB : ¬ a + 2 ^ (k + 1) - 1 < f := fun h => he (.inr (.inl h))
    have hC : ¬ (f ≤ a ∧ a + 2 ^ (k + 1) - 1 ≤ t) := fun h => he (.inr (.inr h))
    clear he
    have hpp : 2 ^ (k + 1) = 2 ^ k + 2 ^ k := by rw [Nat.pow_succ]; omega
    have hp := Nat.two_pow_pos k
    have hpk := Nat.two_pow_pos (k + 1)
    have ha : a < 4294967296 := by omega
    have HL : Hid (∀ w', Calls Tryd.prog 33 #[.agg #[.int .u32 a, .int .i64 ((32 - (k + 1) : Nat) : Int)]] w' fun e w'' => e = .returned (.int .u64 ((a : Int) + ((2 ^ (k + 1) : Nat) : Int) - 1)) ∧ Below w'.heap.size w' w'') := fun w' => by
      have := last_any a (32 - (k + 1)) w' ha (by omega)
      rwa [show 32 - (32 - (k + 1)) = k + 1 from by omega] at this
    have b0 : Below w.heap.size w (w.alloc (.cells #[.int .u32 (a : Int), .int .i64 ((32 - (k + 1) : Nat) : Int)] 29)) := (Below.refl _ _).alloc (Nat.le_refl _) _
    have hR : rcov (k + 1) a f t = rcov k a f t ++ rcov k (a + 2 ^ k) f t := by rw [rcov, if_neg (by omega), if_neg hC]
    rw [hR, List.length_append, pcells_append]
    have hl1 := rcov_len k a f t
    have hl2 := rcov_len k (a + 2 ^ k) f t
    have hd1 : 2 ^ k ∣ a := Nat.dvd_trans (Nat.pow_dvd_pow 2 (by omega)) hd
    have e1 : ((32 - k : Nat) : Int) = ((32 - (k + 1) : Nat) : Int) + 1 := by omega
    have HI1 : Hid (∀ w', Calls Tryd.prog 35 #[.agg #[.int .u32 a, .int .i64 (((32 - (k + 1) : Nat) : Int) + 1)], .int .u64 f, .int .u64 t] w' fun e w'' => ∃ v, e = .returned v ∧ w''.ownsRow w'.heap.size 29 2 v (rcov k a f t).length (pcells (rcov k a f t)) ∧ Below w'.heap.size w' w'') := fun w' => by
      have := ih a f t w' (by omega) hd1 (by omega) hft ht
      rwa [e1] at this
    have HI2 : Hid (∀ w', Calls Tryd.prog 35 #[.agg #[.int .u32 ((a + 2 ^ k : Nat) : Int), .int .i64 (((32 - (k + 1) : Nat) : Int) + 1)], .int .u64 f, .int .u64 t] w' fun e w'' => ∃ v, e = .returned v ∧ w''.ownsRow w'.heap.size 29 2 v (rcov k (a + 2 ^ k) f t).length (pcells (rcov k (a + 2 ^ k) f t)) ∧ Below w'.heap.size w' w'') := fun w' => by
      have := ih (a + 2 ^ k) f t w' (by omega) (Nat.dvd_add hd1 (Nat.dvd_refl _)) (by omega) hft ht
      rwa [e1] at this
    have HL2 : Hid (∀ w', Calls Tryd.prog 33 #[.agg #[.int .u32 a, .int .i64 (((32 - (k + 1) : Nat) : Int) + 1)]] w' fun e w'' => e = .returned (.int .u64 (((a + 2 ^ k : Nat) : Int) - 1)) ∧ Below w'.heap.size w' w'') := fun w' => by
      have := last_any a (32 - k) w' ha (by omega)
      rw [show 32 - (32 - k) = k from by omega, e1] at this
      rwa [show ((a + 2 ^ k : Nat) : Int) = (a : Int) + ((2 ^ k : Nat) : Int) from by omega]
    have hM : a + 2 ^ k < 4294967296 := by omega
    have hMp : 1 ≤ a + 2 ^ k := by omega
    have hk32 : 2 ^ k ≤ 4294967296 := by omega
    have P1 := Lib.hid (pcells_one (rcov k (a + 2 ^ k) f t))
    have hB32 : 32 - (k + 1) ≤ 31 := by omega
    generalize rcov k a f t = R1 at *
    generalize rcov k (a + 2 ^ k) f t = R2 at *
    generalize (a + 2 ^ k : Nat) = M at *
    have hBi : ¬ ((a : Int) + ((2 ^ (k + 1) : Nat) : Int) - 1 < (f : Int)) := by omega
    have hCi : ¬ ((f : Int) ≤ (a : Int) ∧ (a : Int) + ((2 ^ (k + 1) : Nat) : Int) - 1 ≤ (t : Int)) := by omega
    clear ih hpp hd hR hd1 e1 hB hC
    generalize (2 ^ (k + 1) : Nat) = D at *
    generalize (32 - (k + 1) : Nat) = B at *
    generalize (2 ^ k : Nat) = E at *
    have C0 : Hid (∀ w1, Below (w.alloc (.cells #[.int .u32 (a : Int), .int .i64 (B : Int)] 29)).heap.size (w.alloc (.cells #[.int .u32 (a : Int), .int .i64 (B : Int)] 29)) w1 → w1.cell? ⟨w.heap.size, 0, none⟩ = some (.int .u32 (a : Int)) ∧ w1.cell? ⟨w.heap.size, 1, none⟩ = some (.int .i64 (B : Int))) := fun w1 hb => by
      constructor
      · rw [hb.cell (p := ⟨w.heap.size, 0, none⟩) (by simp)]; simp [go_sem]
      · rw [hb.cell (p := ⟨w.heap.size, 1, none⟩) (by simp)]; simp [go_sem]
    have hcs : (f ≤ a ∧ ¬ ((a : Int) + (D : Int) - 1 ≤ (t : Int))) ∨ ¬ (f ≤ a) := by omega
    clear hCi
    have HCS := Lib.hid hcs
    clear hcs
    have N1 : Hid (∀ W W1 : World, ∀ (p : Addr) (v : Value), Below W.heap.size W W1 → W.cell? p = some v → W1.cell? p = some v) := fun W W1 p v hb hc => by
      rw [hb.cell (World.block_lt_of_cell? W _ hc)]; exact hc
    go_enter Tryd.func35, Tryd.ntmps35
    go_wp2_with fail
    refine (HL.out _).mono ?_; rintro e w1 ⟨rfl, hb1⟩
    obtain ⟨c0, c1⟩ := C0.out _ hb1
    have hs1 : w.heap.size + 1 ≤ w1.heap.size := by have := hb1.size; simpa using this
    have b01 := b0.trans (hb1.mono (by simp))
    go_upto_region 4 with fail
    go_cut [30] from 22 (fun b wc => b = .bool false ∧ wc.cell? ⟨w.heap.size, 0, none⟩ = some (.int .u32 (a : Int)) ∧ wc.cell? ⟨w.heap.size, 1, none⟩ = some (.int .i64 (B : Int)) ∧ w.heap.size + 1 ≤ wc.heap.size ∧ Below w.heap.size w wc)
    case first =>
      rcases HCS.out with ⟨hc1, hc2⟩ | hc1
      · have hc3 : decide ((a : Int) + (D : Int) - 1 ≤ (t : Int)) = false := by simpa using hc2
        go_wp2_with fail
        refine (HL.out _).mono ?_; rintro e w2 ⟨rfl, hb2⟩
        have hs2 : w.heap.size + 1 ≤ w2.heap.size := by have := hb2.size; omega
        have c2 := N1.out _ _ _ _ hb2 c0
        have c3 := N1.out _ _ _ _ hb2 c1
        have b02 := b01.trans (hb2.mono (by omega))
        go_wp2_with fail
        go_meet
        exact ⟨by simp, c2, c3, hs2, b02⟩
      · go_wp2_with fail
        go_meet
        exact ⟨rfl, c0, c1, hs1, b01⟩
    case rest =>
      obtain ⟨rfl, c2, c3, hs2, b02⟩ := hcut
      clear c0 c1 HCS
      go_upto_region 7 with fail
      have q0 : (wc.alloc (.cells #[.int .u32 (a : Int), .int .i64 ((B : Int) + 1)] 29)).cell? ⟨w.heap.size, 1, none⟩ = some (.int .i64 (B : Int)) := N1.out wc _ _ _ ((Below.refl _ _).alloc (Nat.le_refl _) _) c3
      have q1 : (wc.alloc (.cells #[.int .u32 (a : Int), .int .i64 ((B : Int) + 1)] 29)).cell? ⟨wc.heap.size, 0, none⟩ = some (.int .u32 (a : Int)) := by simp [go_sem]
      have q2 : (wc.alloc (.cells #[.int .u32 (a : Int), .int .i64 ((B : Int) + 1)] 29)).cell? ⟨wc.heap.size, 1, none⟩ = some (.int .i64 ((B : Int) + 1)) := by simp [go_sem]
      have b03 : Below w.heap.size w (wc.alloc (.cells #[.int .u32 (a : Int), .int .i64 ((B : Int) + 1)] 29)) := b02.alloc (by omega) _
      have s6 : (wc.alloc (.cells #[.int .u32 (a : Int), .int .i64 ((B : Int) + 1)] 29)).heap.size = wc.heap.size + 1 := by simp
      generalize (wc.alloc (.cells #[.int .u32 (a : Int), .int .i64 ((B : Int) + 1)] 29)) = W6 at *
      generalize wc.heap.size = h0 at *
      clear c2 c3 b02
      have S6 := Lib.hid s6
      have z6 : w.heap.size < W6.heap.size := by omega
      clear s6
      have n0 := World.new_ne W6 _ q0
      have n1 := World.new_ne W6 _ q1
      have n2 := World.new_ne W6 _ q2
      have HW1 : Hid (IntKind.u32.wrap (IntKind.u64.wrap (M : Int)) = (M : Int)) := by
        show _ = _
        rw [IntKind.wrap_u64, show (M : Int) % 18446744073709551616 = (M : Int) from by omega]
        simp only [IntKind.wrap, IntKind.signed, IntKind.bits]
        simp; omega
      have HW2 : Hid (IntKind.i64.wrap ((B : Int) + 1) = (B : Int) + 1) := by
        show _ = _
        simp only [IntKind.wrap, IntKind.signed, IntKind.bits]
        simp
        omega
      go_cut [9] from 39 (fun p wd => ∃ h, p = .pointer (some ⟨h, 0, none⟩) ∧ W6.heap.size ≤ h ∧ h < wd.heap.size ∧ wd.cell? ⟨h, 0, none⟩ = some (.int .u32 (M : Int)) ∧ wd.cell? ⟨h, 1, none⟩ = some (.int .i64 ((B : Int) + 1)) ∧ wd.cell? ⟨h0, 0, none⟩ = some (.int .u32 (a : Int)) ∧ wd.cell? ⟨h0, 1, none⟩ = some (.int .i64 ((B : Int) + 1)) ∧ Below w.heap.size w wd)
      case first =>
        go_region_held3 (fun w' => w'.cell? ⟨w.heap.size, 1, none⟩ = some (.int .i64 (B : Int)) ∧ w'.cell? ⟨h0, 0, none⟩ = some (.int .u32 (a : Int)) ∧ w'.cell? ⟨h0, 1, none⟩ = some (.int .i64 ((B : Int) + 1))) (go_keep) ((go_at_call 33; refine (HL2.out _).mono ?_; rintro e w3 ⟨rfl, hb3⟩; have d0 := N1.out _ _ ⟨w.heap.size, 1, none⟩ (.int .i64 (B : Int)) hb3 (by simp [go_sem, *]); have d1 := N1.out _ _ ⟨h0, 0, none⟩ (.int .u32 (a : Int)) hb3 (by simp [go_sem, *]); have d2 := N1.out _ _ ⟨h0, 1, none⟩ (.int .i64 ((B : Int) + 1)) hb3 (by simp [go_sem, *]); (first | (have ee := newB hb3; obtain ⟨e0, e1, f0, f1⟩ := ee) | skip)))
        all_goals
          go_wp2_with fail
          go_meet
          have hH := ‹_ ∧ _ ∧ _›
          have hw1 : IntKind.u32.wrap (IntKind.u64.wrap (M : Int)) = (M : Int) := HW1.out
          have hw2 : IntKind.i64.wrap ((B : Int) + 1) = (B : Int) + 1 := HW2.out
          simp only [hw1, hw2] at hH ⊢
          first
            | (have cc := closeB hb3 b03 z6 (.int .u32 (M : Int)) (.int .i64 ((B : Int) + 1)); exact ⟨_, rfl, cc.1, cc.2.1, cc.2.2.1, cc.2.2.2.1, hH.2.1, hH.2.2, cc.2.2.2.2⟩)
            | (have cc := closeA hb3 b03 z6 (.int .u32 (M : Int)) (.int .i64 ((B : Int) + 1)); exact ⟨_, rfl, cc.1, cc.2.1, cc.2.2.1, cc.2.2.2.1, hH.2.1, hH.2.2, cc.2.2.2.2⟩)
      case rest =>
        obtain ⟨h, rfl, hh1, hh2, k0, k1, k2, k3, b04⟩ := hcut
        go_upto_region 8 with fail
        have hs4 := b04.size
        have hh0 : h0 < h := by have := S6.out; omega
        have OK : Hid (∀ (W W1 : World) (base : Nat) (v : Value) (l : List (Nat × Nat)), W.ownsRow base 29 2 v l.length (pcells l) → Below W.heap.size W W1 → W1.ownsRow base 29 2 v l.length (pcells l)) := fun W W1 base v l ho hb => own_below ho hb
        obtain ⟨i0, hi0, hz0, hz1, hz2⟩ := info_parts info29
        go_region_held3 (fun w' => w'.cell? ⟨h, 0, none⟩ = some (.int .u32 (M : Int)) ∧ w'.cell? ⟨h, 1, none⟩ = some (.int .i64 ((B : Int) + 1)) ∧ w'.cell? ⟨h0, 0, none⟩ = some (.int .u32 (a : Int)) ∧ w'.cell? ⟨h0, 1, none⟩ = some (.int .i64 ((B : Int) + 1))) (go_keep) ((first | (go_at_call_of 35 (Value.int IntKind.u32 (a : Int)); refine (HI1.out _).mono ?_; rintro e w5 ⟨v1, rfl, ho1, hb5⟩; have d0 := N1.out _ _ ⟨h, 0, none⟩ (.int .u32 (M : Int)) hb5 (by simp [go_sem, *]); have d1 := N1.out _ _ ⟨h, 1, none⟩ (.int .i64 ((B : Int) + 1)) hb5 (by simp [go_sem, *]); have d2 := N1.out _ _ ⟨h0, 0, none⟩ (.int .u32 (a : Int)) hb5 (by simp [go_sem, *]); have d3 := N1.out _ _ ⟨h0, 1, none⟩ (.int .i64 ((B : Int) + 1)) hb5 (by simp [go_sem, *])) | (go_at_call_of 35 (Value.int IntKind.u32 (M : Int)); refine (HI2.out _).mono ?_; rintro e w6 ⟨v2, rfl, ho2, hb6⟩; have d4 := N1.out _ _ ⟨h, 0, none⟩ (.int .u32 (M : Int)) hb6 (by simp [go_sem, *]); have d5 := N1.out _ _ ⟨h, 1, none⟩ (.int .i64 ((B : Int) + 1)) hb6 (by simp [go_sem, *]); have d6 := N1.out _ _ ⟨h0, 0, none⟩ (.int .u32 (a : Int)) hb6 (by simp [go_sem, *]); have d7 := N1.out _ _ ⟨h0, 1, none⟩ (.int .i64 ((B : Int) + 1)) hb6 (by simp [go_sem, *])) | (refine step_both _ (by rfl) _ _ _ (by rfl) w.heap.size _ 29 i0 _ 2 16 Tryd.underlying37 hi0 hz0 hz1 hz2 rfl (by omega) v1 v2 R1.length R2.length (pcells R1) (pcells R2) (by rfl) (by rfl) (own_mono (own_below ho1 hb6) hs4) ho2 P1.out (by unfold maxLen; omega) (by omega) (Nat.le_trans hs4 (Nat.le_trans hb5.size hb6.size)) ?_; intro v7 w7 ho7 hg7; have d8 := hg7.cell d4 (own_ne ho1 _ hh2); have d9 := hg7.cell d5 (own_ne ho1 _ hh2); have d10 := hg7.cell d6 (own_ne ho1 _ (Nat.lt_trans hh0 hh2)); have d11 := hg7.cell d7 (own_ne ho1 _ (Nat.lt_trans hh0 hh2)))))
        all_goals
          go_wp2
          go_ret
          have b05 : Below w.heap.size w w5 := (b04.drew).trans (hb5.mono hs4)
          have b06 : Below w.heap.size w w6 := b05.trans (hb6.mono (Nat.le_trans hs4 hb5.size))
          exact ⟨_, rfl, ho7, b06.grown hg7 (Nat.le_trans hs4 (Nat.le_trans hb5.size hb6.size)) (fun k hk => Nat.le_trans hs4 (ho1.lt k hk).1)⟩
end Go.Proofs.YthdmbggpokaggaaDoor
