/-
  What all texts share: blocks that stay as they were; whole numbers at the walk's margin.
-/
import Derived.Test.YtnhcjefbiihfjaaRows
import Derived.WalkKit
import Derived.WalkLawsBesides
import Derived.ProofKit
import Derived.Deep.RegionHeld3
import Derived.Deep.RegionWith
import Derived.Deep.RegionLaw
import Derived.Deep.CutRange
import Derived.Deep.MidRow
import Derived.Deep.OwnRows
import Derived.Laws.NewBlocks
import Derived.Laws.BytesArg
import Derived.Laws.CopyOwn
import Derived.Laws.Strings2
import Derived.Laws.Concat
import Derived.Lib.AppendStr
import Derived.Lib.SliceRun
import Derived.BigCall
import Derived.BigGuard
import Derived.BigRegion
import Derived.BigQuiet
import Derived.Lib.Hide
import Derived.Lib.Walk
import Derived.Below
import Derived.Deep.WholeRow
import Derived.Lib.SmallJoins
namespace Go.Proofs.Ytnhcjefbiihfjaa
open Go.RowKit
set_option linter.unusedVariables false
set_option linter.unusedSimpArgs false

theorem ret_int {k : IntKind} {a b : Int} (h : a = b) : Ending.returned (.int k a) = .returned (.int k b) := by rw [h]
theorem val_int {k : IntKind} {a b : Int} (h : a = b) : Value.int k a = .int k b := by rw [h]
theorem lt_of_heap {W : World} {k : Nat} {o : Obj} (h : W.heap[k]? = some o) : k < W.heap.size := (Array.getElem?_eq_some_iff.1 h).1
theorem ret_bool {a b : Bool} (h : a = b) : Ending.returned (.bool a) = .returned (.bool b) := by rw [h]
theorem ret_str {a b : ByteArray} (h : a = b) : Ending.returned (.string a) = .returned (.string b) := by rw [h]

/-- All blocks that were there are as they were, but for those of the list. -/
structure Kp (bs : List Nat) (w w' : World) : Prop where
  os : w'.os = w.os
  tape : w'.tape = w.tape
  output : w'.output = w.output
  size : w.heap.size ≤ w'.heap.size
  block : ∀ k, k < w.heap.size → k ∉ bs → w'.heap[k]? = w.heap[k]?
theorem Kp.ofBelow {bs : List Nat} {w w' : World} (h : Below w.heap.size w w') : Kp bs w w' := ⟨h.os, h.tape, h.output, h.size, fun k hk _ => h.block k hk⟩
theorem Kp.refl (bs : List Nat) (w : World) : Kp bs w w := .ofBelow (Below.refl _ _)
theorem Kp.trans {bs cs : List Nat} {w w1 w2 : World} (h : Kp bs w w1) (k : Kp cs w1 w2) (hc : ∀ x ∈ cs, x ∈ bs ∨ w.heap.size ≤ x) : Kp bs w w2 :=
  ⟨k.os.trans h.os, k.tape.trans h.tape, k.output.trans h.output, Nat.le_trans h.size k.size, fun x hx hn =>
    (k.block x (Nat.lt_of_lt_of_le hx h.size) fun hm => (hc x hm).elim hn fun hle => by omega).trans (h.block x hx hn)⟩
theorem Kp.mono {bs cs : List Nat} {w w' : World} (h : Kp bs w w') (hs : ∀ x ∈ bs, x ∈ cs) : Kp cs w w' := ⟨h.os, h.tape, h.output, h.size, fun k hk hn => h.block k hk fun hm => hn (hs k hm)⟩
theorem Kp.setCell {bs : List Nat} {w w' : World} (h : Kp bs w w') {p : Addr} (hp : p.block ∈ bs ∨ w.heap.size ≤ p.block) (u : Value) : Kp bs w (w'.setCell p u) :=
  ⟨h.os, h.tape, h.output, by simpa using h.size, fun k hk hn => (Below.heap_setCell _ _ _ _ (fun e => by rcases hp with hp | hp; exact hn (e ▸ hp); omega)).trans (h.block k hk hn)⟩
theorem Kp.setCells {bs : List Nat} {w w' : World} (h : Kp bs w w') {b : Nat} (hp : b ∈ bs ∨ w.heap.size ≤ b) (vs : List Value) (o : Nat) : Kp bs w (w'.setCells b o vs) := by
  induction vs generalizing w' o with
  | nil => exact h
  | cons v r ih => exact ih (h.setCell (p := ⟨b, o, none⟩) hp v) (o + 1)
theorem Kp.drew {bs : List Nat} {w w' : World} (h : Kp bs w w') : Kp bs w w'.drew := ⟨h.os, h.tape, h.output, h.size, h.block⟩
theorem Kp.drewN {bs : List Nat} {w w' : World} (h : Kp bs w w') (n : Nat) : Kp bs w (w'.drewN n) := ⟨h.os, h.tape, h.output, h.size, h.block⟩
theorem Kp.below {bs : List Nat} {w w' : World} (h : Kp bs w w') {B : Nat} (hB : B ≤ w.heap.size) (hb : ∀ k ∈ bs, B ≤ k) : Below B w w' :=
  ⟨h.os, h.tape, h.output, h.size, fun k hk => h.block k (by omega) fun hm => by have := hb k hm; omega⟩
theorem Kp.then {bs : List Nat} {w w1 w2 : World} (h : Kp bs w w1) (hb : Below w1.heap.size w1 w2) : Kp bs w w2 := h.trans (cs := []) (Kp.ofBelow hb) (by simp)
theorem Kp.alloc {bs : List Nat} {w w' : World} (h : Kp bs w w') (o : Obj) : Kp bs w (w'.alloc o) := h.then ((Below.refl _ _).alloc (Nat.le_refl _) _)
theorem Kp.grown {bs : List Nat} {w w1 w2 : World} {row : Option Nat} (h : Kp bs w w1) (hg : w1.grownBy w2 row) (hr : ∀ k, row = some k → k ∈ bs) : Kp bs w w2 :=
  h.trans (cs := row.toList) ⟨hg.os, hg.tape, hg.output, hg.size, fun k hk hn => hg.block k hk (fun e => hn (by rw [← e]; simp))⟩ (fun x hx => Or.inl (hr x (by simpa using hx)))
theorem below_drewN (W : World) (n : Nat) : Below W.heap.size W (W.drewN n) := ⟨rfl, rfl, rfl, Nat.le_refl _, fun _ _ => rfl⟩

/-- To take an operation first, the slot that it writes named. -/
theorem takeH {P : Program} {md : Region.Mode} {ops : Array Oper} {Q : Exit → Act → World → Prop} {S : World → Prop} {i : Nat} {oi : Oper} {d : Option Tmp} {v : Value} {fuel : Nat} {listed : Array Bool} {a : Act} {w : World} (hi : ops[i]? = some oi) (hd : oi.dst = d)
    (hs : Region.noSelect ops = true) (hf : Region.free md ops listed i = true) (hr : (Region.ready md ops listed).contains i = true)
    (hQ : ∀ c a w, Q (.panic c) (a.put d v) w → Q (.panic c) a w) (hy : YieldsIf P ops S oi v a) (hS : S w)
    (h : wpAnyH P md ops Q S fuel (listed.setIfInBounds i true) (a.put d v) w) : wpAnyH P md ops Q S (fuel + 1) listed a w := by
  subst hd
  exact wpAnyH_take hi hs hf hr hQ hy hS h

/-- The row of a slice. -/
def rw' (v : Value) : List Nat := v.ownBlock.toList
/-- A row that is new, or the old one. -/
def Nw (w : World) (v v' : Value) : Prop := ∀ g, v'.ownBlock = some g → v.ownBlock = some g ∨ w.heap.size ≤ g
theorem Nw.refl (w : World) (v : Value) : Nw w v v := fun g h => Or.inl h
theorem Nw.trans {w w1 : World} {v v1 v2 : Value} (h : Nw w v v1) (hs : w.heap.size ≤ w1.heap.size) (h1 : Nw w1 v1 v2) : Nw w v v2 := fun g hg => by
  rcases h1 g hg with e | e
  · exact h g e
  · exact Or.inr (Nat.le_trans hs e)
theorem own_block {w : World} {base : Nat} {e : TypeId} {size : Nat} {v : Value} {n : Nat} {xs : List Value} (h : w.ownsRow base e size v n xs) {g : Nat} (hg : v.ownBlock = some g) : ∃ cur, w.heap[g]? = some (.cells cur e (0, 0)) := by
  rcases h.2 with ⟨rfl, _⟩ | ⟨g', cap, cur, rfl, _, hgg, _⟩
  · simp [Value.ownBlock] at hg
  · simp [Value.ownBlock] at hg
    subst hg
    exact ⟨cur, hgg⟩

theorem emod_of_tmod (n m : Int) (h1 : 1 ≤ m) : n % m = if n.tmod m < 0 then n.tmod m + m else n.tmod m := by
  have e : n = n.tmod m + m * n.tdiv m := (Int.tmod_add_mul_tdiv n m).symm
  have l1 := Int.tmod_lt_of_pos n (show 0 < m by omega)
  have l2 := Int.lt_tmod_of_pos n (show 0 < m by omega)
  have e2 : n % m = (n.tmod m) % m := by
    conv => lhs; rw [e]
    rw [Int.add_mul_emod_self_left]
  rw [e2]
  split
  · rw [← Int.add_emod_right, Int.emod_eq_of_lt (by omega) (by omega)]
  · rw [Int.emod_eq_of_lt (by omega) (by omega)]
theorem rest_any (n m : Int) (w : World) (h1 : 1 ≤ m) (hm : m ≤ 9223372036854775807) (hn : -9223372036854775808 ≤ n) (hn2 : n ≤ 9223372036854775807) :
    Calls Try.prog 18 #[.int .i64 n, .int .i64 m] w fun e w' => e = .returned (.int .i64 (n % m)) ∧ w' = w := by
  have hz : (m == 0) = false := by simp; omega
  have HE : Hid (n % m = if n.tmod m < 0 then n.tmod m + m else n.tmod m) := emod_of_tmod n m h1
  have l2 := Int.lt_tmod_of_pos n (show 0 < m by omega)
  by_cases hneg : n.tmod m < 0
  · go_enter Try.func18, Try.ntmps18
    go_wp2
    go_ret
    exact ⟨ret_int (by rw [HE.out, if_pos hneg]), rfl⟩
  · go_enter Try.func18, Try.ntmps18
    go_wp2
    go_ret
    exact ⟨ret_int (by rw [HE.out, if_neg (by omega)]), rfl⟩
end Go.Proofs.Ytnhcjefbiihfjaa
