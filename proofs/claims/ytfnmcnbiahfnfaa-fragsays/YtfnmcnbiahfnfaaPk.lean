/-
  A packet as a plain record; contracts of what looks at one (beyond, Check; the document's outside, IpCheck), and of Rest.
-/
import Derived.Test.YtfnmcnbiahfnfaaRows
import Derived.WalkKit
import Derived.ProofKit
import Derived.Deep.RegionHeld3
import Derived.Laws.NewBlocks
import Derived.BigCall
import Derived.BigGuard
import Derived.Lib.Hide
import Derived.Lib.Walk
import Derived.Below
import Derived.Deep.WholeRow
import Derived.Lib.SmallJoins
namespace Go.Proofs.Ytfnmcnbiahfnfaa
open Go.RowKit
set_option linter.unusedVariables false
set_option linter.unusedSimpArgs false

theorem ret_int {k : IntKind} {a b : Int} (h : a = b) : Ending.returned (.int k a) = .returned (.int k b) := by rw [h]
theorem val_int {k : IntKind} {a b : Int} (h : a = b) : Value.int k a = .int k b := by rw [h]
theorem lt_of_heap {W : World} {k : Nat} {o : Obj} (h : W.heap[k]? = some o) : k < W.heap.size := (Array.getElem?_eq_some_iff.1 h).1
theorem ret_bool {a b : Bool} (h : a = b) : Ending.returned (.bool a) = .returned (.bool b) := by rw [h]

structure Pk where
  src : Nat
  dst : Nat
  proto : Int
  ttl : Int
  id : Int
  dont : Bool
  more : Bool
  off : Int
  body : ByteArray

/-- The cells of a packet. -/
abbrev pc (p : Pk) : Array Value := #[.int .u32 (p.src : Int), .int .u32 (p.dst : Int), .int .i64 p.proto, .int .i64 p.ttl, .int .i64 p.id, .bool p.dont, .bool p.more, .int .i64 p.off, .string p.body]
/-- A packet's value. -/
abbrev pv (p : Pk) : Value := .agg (pc p)
/-- No packet. -/
def pz : Pk := ⟨0, 0, 0, 0, 0, false, false, 0, ⟨#[]⟩⟩

/-- Not from 0 to m. -/
abbrev bad (n m : Int) : Prop := n < 0 ∨ m < n
/-- A number of it out of its bounds. -/
abbrev bads (p : Pk) : Prop := bad p.proto 255 ∨ bad p.ttl 255 ∨ bad p.id 65535 ∨ bad p.off 8191


/-- What is wrong with a packet. -/
def chk (p : Pk) : Int := if bads p then 1 else if 1400 < p.body.size then 2 else 0

theorem beyond_t (n m : Int) (w : World) (h : bad n m) :
    Calls Try.prog 36 #[.int .i64 n, .int .i64 m] w fun e w' => e = .returned (.bool true) ∧ w' = w := by
  unfold bad at h
  by_cases h0 : n < 0
  · go_enter Try.func36, Try.ntmps36
    go_wp2
    go_ret
    exact ⟨rfl, rfl⟩
  · have h1 : m < n := by omega
    go_enter Try.func36, Try.ntmps36
    go_wp2
    go_ret
    exact ⟨rfl, rfl⟩
theorem beyond_f (n m : Int) (w : World) (h : ¬ bad n m) :
    Calls Try.prog 36 #[.int .i64 n, .int .i64 m] w fun e w' => e = .returned (.bool false) ∧ w' = w := by
  unfold bad at h
  have h0 : ¬ n < 0 := by omega
  have h1 : ¬ m < n := by omega
  clear h
  go_enter Try.func36, Try.ntmps36
  go_wp2
  go_ret
  exact ⟨rfl, rfl⟩
theorem outside_t (n l m : Int) (w : World) (h : n < l ∨ m < n) :
    Calls Try.prog 25 #[.int .i64 n, .int .i64 l, .int .i64 m] w fun e w' => e = .returned (.bool true) ∧ w' = w := by
  by_cases h0 : n < l
  · go_enter Try.func25, Try.ntmps25
    go_wp2
    go_ret
    exact ⟨rfl, rfl⟩
  · have h1 : m < n := by omega
    clear h
    go_enter Try.func25, Try.ntmps25
    go_wp2
    go_ret
    exact ⟨rfl, rfl⟩
theorem outside_f (n l m : Int) (w : World) (h : ¬ (n < l ∨ m < n)) :
    Calls Try.prog 25 #[.int .i64 n, .int .i64 l, .int .i64 m] w fun e w' => e = .returned (.bool false) ∧ w' = w := by
  have h0 : ¬ n < l := by omega
  have h1 : ¬ m < n := by omega
  clear h
  go_enter Try.func25, Try.ntmps25
  go_wp2
  go_ret
  exact ⟨rfl, rfl⟩

theorem pchk_any (p : Pk) (w : World) :
    Calls Try.prog 27 #[pv p] w fun e w' => e = .returned (.int .i64 (chk p)) ∧ Below w.heap.size w w' := by
  by_cases h0 : bad p.proto 255
  · have HC : Hid (chk p = 1) := by show _ = _; unfold chk; rw [if_pos (Or.inl h0)]
    go_enter Try.func27, Try.ntmps27
    go_wp2_with (go_at_call 36; first | (refine (beyond_t _ _ _ ?_).mono ?_; assumption; rintro e w' ⟨rfl, rfl⟩) | (refine (beyond_f _ _ _ ?_).mono ?_; assumption; rintro e w' ⟨rfl, rfl⟩))
    go_ret
    exact ⟨ret_int HC.out.symm, (Below.refl _ _).alloc (Nat.le_refl _) _⟩
  · by_cases h1 : bad p.ttl 255
    · have HC : Hid (chk p = 1) := by show _ = _; unfold chk; rw [if_pos (Or.inr (Or.inl h1))]
      go_enter Try.func27, Try.ntmps27
      go_wp2_with (go_at_call 36; first | (refine (beyond_t _ _ _ ?_).mono ?_; assumption; rintro e w' ⟨rfl, rfl⟩) | (refine (beyond_f _ _ _ ?_).mono ?_; assumption; rintro e w' ⟨rfl, rfl⟩))
      go_ret
      exact ⟨ret_int HC.out.symm, (Below.refl _ _).alloc (Nat.le_refl _) _⟩
    · by_cases h2 : bad p.id 65535
      · have HC : Hid (chk p = 1) := by show _ = _; unfold chk; rw [if_pos (Or.inr (Or.inr (Or.inl h2)))]
        go_enter Try.func27, Try.ntmps27
        go_wp2_with (go_at_call 36; first | (refine (beyond_t _ _ _ ?_).mono ?_; assumption; rintro e w' ⟨rfl, rfl⟩) | (refine (beyond_f _ _ _ ?_).mono ?_; assumption; rintro e w' ⟨rfl, rfl⟩))
        go_ret
        exact ⟨ret_int HC.out.symm, (Below.refl _ _).alloc (Nat.le_refl _) _⟩
      · by_cases h3 : bad p.off 8191
        · have HC : Hid (chk p = 1) := by show _ = _; unfold chk; rw [if_pos (Or.inr (Or.inr (Or.inr h3)))]
          go_enter Try.func27, Try.ntmps27
          go_wp2_with (go_at_call 36; first | (refine (beyond_t _ _ _ ?_).mono ?_; assumption; rintro e w' ⟨rfl, rfl⟩) | (refine (beyond_f _ _ _ ?_).mono ?_; assumption; rintro e w' ⟨rfl, rfl⟩))
          go_ret
          exact ⟨ret_int HC.out.symm, (Below.refl _ _).alloc (Nat.le_refl _) _⟩
        · have hb : ¬ bads p := by unfold bads; simp [h0, h1, h2, h3]
          by_cases h4 : 1400 < p.body.size
          · have HC : Hid (chk p = 2) := by show _ = _; unfold chk; rw [if_neg hb, if_pos h4]
            clear hb
            go_enter Try.func27, Try.ntmps27
            go_wp2_with (go_at_call 36; first | (refine (beyond_t _ _ _ ?_).mono ?_; assumption; rintro e w' ⟨rfl, rfl⟩) | (refine (beyond_f _ _ _ ?_).mono ?_; assumption; rintro e w' ⟨rfl, rfl⟩))
            go_ret
            exact ⟨ret_int HC.out.symm, (Below.refl _ _).alloc (Nat.le_refl _) _⟩
          · have HC : Hid (chk p = 0) := by show _ = _; unfold chk; rw [if_neg hb, if_neg h4]
            clear hb
            go_enter Try.func27, Try.ntmps27
            go_wp2_with (go_at_call 36; first | (refine (beyond_t _ _ _ ?_).mono ?_; assumption; rintro e w' ⟨rfl, rfl⟩) | (refine (beyond_f _ _ _ ?_).mono ?_; assumption; rintro e w' ⟨rfl, rfl⟩))
            go_ret
            exact ⟨ret_int HC.out.symm, (Below.refl _ _).alloc (Nat.le_refl _) _⟩

theorem rchk_any (p : Pk) (w : World) :
    Calls Try.prog 26 #[pv p] w fun e w' => e = .returned (.int .i64 (chk p)) ∧ Below w.heap.size w w' := by
  by_cases h0 : bad p.proto 255
  · have HC : Hid (chk p = 1) := by show _ = _; unfold chk; rw [if_pos (Or.inl h0)]
    go_enter Try.func26, Try.ntmps26
    go_wp2_with (go_at_call 25; first | (refine (outside_t _ _ _ _ ?_).mono ?_; assumption; rintro e w' ⟨rfl, rfl⟩) | (refine (outside_f _ _ _ _ ?_).mono ?_; assumption; rintro e w' ⟨rfl, rfl⟩))
    go_ret
    exact ⟨ret_int HC.out.symm, (Below.refl _ _).alloc (Nat.le_refl _) _⟩
  · by_cases h1 : bad p.ttl 255
    · have HC : Hid (chk p = 1) := by show _ = _; unfold chk; rw [if_pos (Or.inr (Or.inl h1))]
      go_enter Try.func26, Try.ntmps26
      go_wp2_with (go_at_call 25; first | (refine (outside_t _ _ _ _ ?_).mono ?_; assumption; rintro e w' ⟨rfl, rfl⟩) | (refine (outside_f _ _ _ _ ?_).mono ?_; assumption; rintro e w' ⟨rfl, rfl⟩))
      go_ret
      exact ⟨ret_int HC.out.symm, (Below.refl _ _).alloc (Nat.le_refl _) _⟩
    · by_cases h2 : bad p.id 65535
      · have HC : Hid (chk p = 1) := by show _ = _; unfold chk; rw [if_pos (Or.inr (Or.inr (Or.inl h2)))]
        go_enter Try.func26, Try.ntmps26
        go_wp2_with (go_at_call 25; first | (refine (outside_t _ _ _ _ ?_).mono ?_; assumption; rintro e w' ⟨rfl, rfl⟩) | (refine (outside_f _ _ _ _ ?_).mono ?_; assumption; rintro e w' ⟨rfl, rfl⟩))
        go_ret
        exact ⟨ret_int HC.out.symm, (Below.refl _ _).alloc (Nat.le_refl _) _⟩
      · by_cases h3 : bad p.off 8191
        · have HC : Hid (chk p = 1) := by show _ = _; unfold chk; rw [if_pos (Or.inr (Or.inr (Or.inr h3)))]
          go_enter Try.func26, Try.ntmps26
          go_wp2_with (go_at_call 25; first | (refine (outside_t _ _ _ _ ?_).mono ?_; assumption; rintro e w' ⟨rfl, rfl⟩) | (refine (outside_f _ _ _ _ ?_).mono ?_; assumption; rintro e w' ⟨rfl, rfl⟩))
          go_ret
          exact ⟨ret_int HC.out.symm, (Below.refl _ _).alloc (Nat.le_refl _) _⟩
        · have hb : ¬ bads p := by unfold bads; simp [h0, h1, h2, h3]
          by_cases h4 : 1400 < p.body.size
          · have HC : Hid (chk p = 2) := by show _ = _; unfold chk; rw [if_neg hb, if_pos h4]
            clear hb
            go_enter Try.func26, Try.ntmps26
            go_wp2_with (go_at_call 25; first | (refine (outside_t _ _ _ _ ?_).mono ?_; assumption; rintro e w' ⟨rfl, rfl⟩) | (refine (outside_f _ _ _ _ ?_).mono ?_; assumption; rintro e w' ⟨rfl, rfl⟩))
            go_ret
            exact ⟨ret_int HC.out.symm, (Below.refl _ _).alloc (Nat.le_refl _) _⟩
          · have HC : Hid (chk p = 0) := by show _ = _; unfold chk; rw [if_neg hb, if_neg h4]
            clear hb
            go_enter Try.func26, Try.ntmps26
            go_wp2_with (go_at_call 25; first | (refine (outside_t _ _ _ _ ?_).mono ?_; assumption; rintro e w' ⟨rfl, rfl⟩) | (refine (outside_f _ _ _ _ ?_).mono ?_; assumption; rintro e w' ⟨rfl, rfl⟩))
            go_ret
            exact ⟨ret_int HC.out.symm, (Below.refl _ _).alloc (Nat.le_refl _) _⟩
theorem emod_of_tmod (n m : Int) (h1 : 1 ≤ m) : n % m = if n.tmod m < 0 then n.tmod m + m else n.tmod m := by
  have e : n = n.tmod m + m * n.tdiv m := (Int.tmod_add_mul_tdiv n m).symm
  have l1 := Int.tmod_lt_of_pos n (show 0 < m by omega)
  have l2 := Int.lt_tmod_of_pos n (show 0 < m by omega)
  have e2 : n % m = (n.tmod m) % m := by
    conv => lhs; rw [e]
    rw [Int.add_mul_emod_self_left]
  rw [e2]
  split
  · rw [← Int.add_emod_right, Int.emod_eq_of_lt (by omega) (by omega)]
  · rw [Int.emod_eq_of_lt (by omega) (by omega)]

theorem rest_any (n m : Int) (w : World) (h1 : 1 ≤ m) (hm : m ≤ 9223372036854775807) (hn : -9223372036854775808 ≤ n) (hn2 : n ≤ 9223372036854775807) :
    Calls Try.prog 21 #[.int .i64 n, .int .i64 m] w fun e w' => e = .returned (.int .i64 (n % m)) ∧ w' = w := by
  have hz : (m == 0) = false := by simp; omega
  have HE : Hid (n % m = if n.tmod m < 0 then n.tmod m + m else n.tmod m) := emod_of_tmod n m h1
  have l2 := Int.lt_tmod_of_pos n (show 0 < m by omega)
  by_cases hneg : n.tmod m < 0
  · go_enter Try.func21, Try.ntmps21
    go_wp2
    go_ret
    exact ⟨ret_int (by rw [HE.out, if_pos hneg]), rfl⟩
  · go_enter Try.func21, Try.ntmps21
    go_wp2
    go_ret
    exact ⟨ret_int (by rw [HE.out, if_neg (by omega)]), rfl⟩



/-- The cells of a packet, as a list. -/
abbrev pcl (p : Pk) : List Value := [.int .u32 (p.src : Int), .int .u32 (p.dst : Int), .int .i64 p.proto, .int .i64 p.ttl, .int .i64 p.id, .bool p.dont, .bool p.more, .int .i64 p.off, .string p.body]
/-- A block that holds a packet. -/
def PB (g : Nat) (p : Pk) (W : World) : Prop := W.heap[g]? = some (.cells (pc p) 24 (0, 0))
theorem PB.keep {g : Nat} {p : Pk} {W W1 : World} (h : PB g p W) (hb : Below W.heap.size W W1) : PB g p W1 := (hb.block _ (lt_of_heap h)).trans h
theorem PB.new (w : World) (p : Pk) : PB w.heap.size p (w.alloc (.cells (pc p) 24)) := heap_alloc_new _ _
theorem PB.range {g : Nat} {p : Pk} {W : World} (h : PB g p W) : W.rangeAt g 0 (pcl p) := World.rangeAt_of_block h 0 9
theorem PB.lt {g : Nat} {p : Pk} {W : World} (h : PB g p W) : g < W.heap.size := lt_of_heap h
theorem PB.alloc {g : Nat} {p : Pk} {W : World} (h : PB g p W) (o : Obj) : PB g p (W.alloc o) := (Below.heap_alloc _ _ _ h.lt).trans h
theorem PB.drew {g : Nat} {p : Pk} {W : World} (h : PB g p W) : PB g p W.drew := h
theorem PB.cell {g : Nat} {p : Pk} {W : World} (h : PB g p W) (i : Nat) : W.cell? ⟨g, i, none⟩ = (pc p)[i]? := Joins.cell_of_block h i
theorem info24 : (Try.prog.info? 24).map (·.size) = some 9 := by kernel_rfl

end Go.Proofs.Ytfnmcnbiahfnfaa
