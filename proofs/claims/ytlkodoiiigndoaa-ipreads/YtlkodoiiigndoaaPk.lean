/-
  A packet as a plain record; contracts of the small functions of package ip: two, four, beyond, Check, offAndBits; and of the document's outside and IpCheck.
-/
import Derived.Test.YtlkodoiiigndoaaTurn
import Derived.Deep.RegionHeld3
import Derived.Laws.NewBlocks
import Derived.BigCall
import Derived.BigGuard
import Derived.Lib.Hide
import Derived.Below
namespace Go.Proofs.Ytlkodoiiigndoaa
open Go.RowKit
set_option linter.unusedVariables false

theorem ret_bool {a b : Bool} (h : a = b) : Ending.returned (.bool a) = .returned (.bool b) := by rw [h]

structure Pk where
  src : Nat
  dst : Nat
  proto : Int
  ttl : Int
  id : Int
  dont : Bool
  more : Bool
  off : Int
  body : ByteArray

/-- The cells of a packet. -/
abbrev pc (p : Pk) : Array Value := #[.int .u32 (p.src : Int), .int .u32 (p.dst : Int), .int .i64 p.proto, .int .i64 p.ttl, .int .i64 p.id, .bool p.dont, .bool p.more, .int .i64 p.off, .string p.body]
/-- A packet's value. -/
abbrev pv (p : Pk) : Value := .agg (pc p)
/-- No packet. -/
def pz : Pk := ⟨0, 0, 0, 0, 0, false, false, 0, ⟨#[]⟩⟩

/-- Not from 0 to m. -/
abbrev bad (n m : Int) : Prop := n < 0 ∨ m < n
/-- A number of it out of its bounds. -/
abbrev bads (p : Pk) : Prop := bad p.proto 255 ∨ bad p.ttl 255 ∨ bad p.id 65535 ∨ bad p.off 8191


/-- What is wrong with a packet. -/
def chk (p : Pk) : Int := if bads p then 1 else if 1400 < p.body.size then 2 else 0

theorem beyond_t (n m : Int) (w : World) (h : bad n m) :
    Calls Try.prog 22 #[.int .i64 n, .int .i64 m] w fun e w' => e = .returned (.bool true) ∧ w' = w := by
  unfold bad at h
  by_cases h0 : n < 0
  · go_enter Try.func22, Try.ntmps22
    go_wp2
    go_ret
    exact ⟨rfl, rfl⟩
  · have h1 : m < n := by omega
    go_enter Try.func22, Try.ntmps22
    go_wp2
    go_ret
    exact ⟨rfl, rfl⟩
theorem beyond_f (n m : Int) (w : World) (h : ¬ bad n m) :
    Calls Try.prog 22 #[.int .i64 n, .int .i64 m] w fun e w' => e = .returned (.bool false) ∧ w' = w := by
  unfold bad at h
  have h0 : ¬ n < 0 := by omega
  have h1 : ¬ m < n := by omega
  clear h
  go_enter Try.func22, Try.ntmps22
  go_wp2
  go_ret
  exact ⟨rfl, rfl⟩
theorem outside_t (n m : Int) (w : World) (h : bad n m) :
    Calls Try.prog 23 #[.int .i64 n, .int .i64 0, .int .i64 m] w fun e w' => e = .returned (.bool true) ∧ w' = w := by
  unfold bad at h
  by_cases h0 : n < 0
  · go_enter Try.func23, Try.ntmps23
    go_wp2
    go_ret
    exact ⟨rfl, rfl⟩
  · have h1 : m < n := by omega
    go_enter Try.func23, Try.ntmps23
    go_wp2
    go_ret
    exact ⟨rfl, rfl⟩
theorem outside_f (n m : Int) (w : World) (h : ¬ bad n m) :
    Calls Try.prog 23 #[.int .i64 n, .int .i64 0, .int .i64 m] w fun e w' => e = .returned (.bool false) ∧ w' = w := by
  unfold bad at h
  have h0 : ¬ n < 0 := by omega
  have h1 : ¬ m < n := by omega
  clear h
  go_enter Try.func23, Try.ntmps23
  go_wp2
  go_ret
  exact ⟨rfl, rfl⟩

theorem pchk_any (p : Pk) (w : World) :
    Calls Try.prog 10 #[pv p] w fun e w' => e = .returned (.int .i64 (chk p)) ∧ Below w.heap.size w w' := by
  by_cases h0 : bad p.proto 255
  · have HC : Hid (chk p = 1) := by show _ = _; unfold chk; rw [if_pos (Or.inl h0)]
    go_enter Try.func10, Try.ntmps10
    go_wp2_with (go_at_call 22; first | (refine (beyond_t _ _ _ ?_).mono ?_; assumption; rintro e w' ⟨rfl, rfl⟩) | (refine (beyond_f _ _ _ ?_).mono ?_; assumption; rintro e w' ⟨rfl, rfl⟩))
    go_ret
    exact ⟨ret_int HC.out.symm, (Below.refl _ _).alloc (Nat.le_refl _) _⟩
  · by_cases h1 : bad p.ttl 255
    · have HC : Hid (chk p = 1) := by show _ = _; unfold chk; rw [if_pos (Or.inr (Or.inl h1))]
      go_enter Try.func10, Try.ntmps10
      go_wp2_with (go_at_call 22; first | (refine (beyond_t _ _ _ ?_).mono ?_; assumption; rintro e w' ⟨rfl, rfl⟩) | (refine (beyond_f _ _ _ ?_).mono ?_; assumption; rintro e w' ⟨rfl, rfl⟩))
      go_ret
      exact ⟨ret_int HC.out.symm, (Below.refl _ _).alloc (Nat.le_refl _) _⟩
    · by_cases h2 : bad p.id 65535
      · have HC : Hid (chk p = 1) := by show _ = _; unfold chk; rw [if_pos (Or.inr (Or.inr (Or.inl h2)))]
        go_enter Try.func10, Try.ntmps10
        go_wp2_with (go_at_call 22; first | (refine (beyond_t _ _ _ ?_).mono ?_; assumption; rintro e w' ⟨rfl, rfl⟩) | (refine (beyond_f _ _ _ ?_).mono ?_; assumption; rintro e w' ⟨rfl, rfl⟩))
        go_ret
        exact ⟨ret_int HC.out.symm, (Below.refl _ _).alloc (Nat.le_refl _) _⟩
      · by_cases h3 : bad p.off 8191
        · have HC : Hid (chk p = 1) := by show _ = _; unfold chk; rw [if_pos (Or.inr (Or.inr (Or.inr h3)))]
          go_enter Try.func10, Try.ntmps10
          go_wp2_with (go_at_call 22; first | (refine (beyond_t _ _ _ ?_).mono ?_; assumption; rintro e w' ⟨rfl, rfl⟩) | (refine (beyond_f _ _ _ ?_).mono ?_; assumption; rintro e w' ⟨rfl, rfl⟩))
          go_ret
          exact ⟨ret_int HC.out.symm, (Below.refl _ _).alloc (Nat.le_refl _) _⟩
        · have hb : ¬ bads p := by unfold bads; simp [h0, h1, h2, h3]
          by_cases h4 : 1400 < p.body.size
          · have HC : Hid (chk p = 2) := by show _ = _; unfold chk; rw [if_neg hb, if_pos h4]
            clear hb
            go_enter Try.func10, Try.ntmps10
            go_wp2_with (go_at_call 22; first | (refine (beyond_t _ _ _ ?_).mono ?_; assumption; rintro e w' ⟨rfl, rfl⟩) | (refine (beyond_f _ _ _ ?_).mono ?_; assumption; rintro e w' ⟨rfl, rfl⟩))
            go_ret
            exact ⟨ret_int HC.out.symm, (Below.refl _ _).alloc (Nat.le_refl _) _⟩
          · have HC : Hid (chk p = 0) := by show _ = _; unfold chk; rw [if_neg hb, if_neg h4]
            clear hb
            go_enter Try.func10, Try.ntmps10
            go_wp2_with (go_at_call 22; first | (refine (beyond_t _ _ _ ?_).mono ?_; assumption; rintro e w' ⟨rfl, rfl⟩) | (refine (beyond_f _ _ _ ?_).mono ?_; assumption; rintro e w' ⟨rfl, rfl⟩))
            go_ret
            exact ⟨ret_int HC.out.symm, (Below.refl _ _).alloc (Nat.le_refl _) _⟩

/-- The lowest 16 bits of n. -/
def lo (n : Int) : Nat := (n % 65536).toNat

theorem two_any (n : Int) (w : World) (h1 : -9223372036854775808 ≤ n) (h2 : n ≤ 9223372036854775807) :
    Calls Try.prog 29 #[.int .i64 n] w fun e w' => e = .returned (.string (wd (lo n))) ∧ Below w.heap.size w w' := by
  have hc := conv_new w [UInt8.ofNat (lo n / 256), UInt8.ofNat (lo n)] 2 #[.int .u8 (n / 256 % 256), .int .u8 (n % 256)] (by
    unfold lo
    simp only [List.map_cons, List.map_nil, UInt8.toNat_ofNat']
    rw [show (n / 256 % 256) = (((n % 65536).toNat / 256 % 2 ^ 8 : Nat) : Int) from by omega, show (n % 256) = (((n % 65536).toNat % 2 ^ 8 : Nat) : Int) from by omega])
  simp only [List.length_cons, List.length_nil, Nat.zero_add, Nat.reduceAdd] at hc
  go_enter Try.func29, Try.ntmps29
  go_wp2
  go_ret
  exact ⟨rfl, (Below.refl _ _).alloc (Nat.le_refl _) _⟩

theorem wd_data (n : Nat) : (wd n).data.toList = [UInt8.ofNat (n / 256), UInt8.ofNat n] := rfl

/-- A number of 32 bits as four bytes. -/
def w4 (n : Nat) : ByteArray := wd (n / 65536) ++ wd (n % 65536)
theorem four_any (n : Nat) (w : World) (hn : n < 4294967296) :
    Calls Try.prog 28 #[.int .u32 n] w fun e w' => e = .returned (.string (w4 n)) ∧ Below w.heap.size w w' := by
  have za := wd_size (n / 65536)
  have zb := wd_size (n % 65536)
  have H1 : Hid (∀ w', Calls Try.prog 29 #[.int .i64 ((n : Int) / 65536)] w' fun e w'' => e = .returned (.string (wd (n / 65536))) ∧ Below w'.heap.size w' w'') := fun w' => by
    have := two_any ((n : Int) / 65536) w' (by omega) (by omega)
    rwa [show lo ((n : Int) / 65536) = n / 65536 from by unfold lo; omega] at this
  have H2 : Hid (∀ w', Calls Try.prog 29 #[.int .i64 (n : Int)] w' fun e w'' => e = .returned (.string (wd (n % 65536))) ∧ Below w'.heap.size w' w'') := fun w' => by
    have := two_any (n : Int) w' (by omega) (by omega)
    rwa [show lo (n : Int) = n % 65536 from by unfold lo; omega] at this
  have H4 : Hid (w4 n = wd (n / 65536) ++ wd (n % 65536)) := rfl
  generalize wd (n / 65536) = A at *
  generalize wd (n % 65536) = B at *
  go_enter Try.func28, Try.ntmps28
  go_wp2_with fail
  refine (H1.out _).mono ?_; rintro e w1 ⟨rfl, hb1⟩
  go_wp2_with fail
  refine (H2.out _).mono ?_; rintro e w2 ⟨rfl, hb2⟩
  go_wp2
  go_ret
  exact ⟨by rw [H4.out]; rfl, hb1.trans (hb2.mono hb1.size)⟩

/-- Off, with the bits of Dont and More above it. -/
def obits (p : Pk) : Nat := p.off.toNat + (if p.dont then 16384 else 0) + (if p.more then 8192 else 0)
theorem wraps_i64 (n : Int) (h0 : 0 ≤ n) (h1 : n < 2 ^ 32) : IntKind.i64.wrap n = n := by rw [IntKind.wrap_i64]; omega
theorem or_add (n : Nat) (k c m : Nat) (hc : 2 ^ k * c = m) (hn : n < 2 ^ k) (hm : m < 2 ^ 32) (hk : k ≤ 31) : bits BinOp.or IntKind.i64 (n : Int) (m : Int) = (n : Int) + m := by
  have hn2 : n < 2 ^ 32 := Nat.lt_of_lt_of_le hn (Nat.pow_le_pow_right (by omega) (by omega))
  rw [(bits_nat .i64 32 (by decide) wraps_i64 n m hn2 hm).2, Nat.or_comm, ← hc, ← Nat.two_pow_add_eq_or_of_lt hn c]
  simp; omega
theorem or_16384 (o : Nat) (ho : o < 8192) : bits BinOp.or IntKind.i64 (o : Int) 16384 = (o : Int) + 16384 := or_add o 13 2 16384 rfl (by omega) (by omega) (by omega)
theorem or_8192 (o : Nat) (ho : o < 8192) : bits BinOp.or IntKind.i64 (o : Int) 8192 = (o : Int) + 8192 := or_add o 13 1 8192 rfl (by omega) (by omega) (by omega)
theorem or_24576 (o : Nat) (ho : o < 8192) : bits BinOp.or IntKind.i64 ((o : Int) + 16384) 8192 = (o : Int) + 24576 := by
  have h := (bits_nat .i64 32 (by decide) wraps_i64 (o + 16384) 8192 (by omega) (by omega)).2
  rw [show ((o : Int) + 16384) = ((o + 16384 : Nat) : Int) from by omega, show (8192 : Int) = ((8192 : Nat) : Int) from rfl, h]
  have h2 := Nat.two_pow_add_eq_or_of_lt (i := 13) (b := o) (by omega) 2
  have h3 := Nat.two_pow_add_eq_or_of_lt (i := 13) (b := o) (by omega) 3
  rw [show o + 16384 = 2 ^ 13 * 2 ||| o from by omega, Nat.or_assoc, Nat.or_comm o, ← Nat.or_assoc, show (2 ^ 13 * 2 ||| 8192) = 2 ^ 13 * 3 from rfl, ← h3]
  omega
theorem obits_any (p : Pk) (w : World) (h : ¬ bad p.off 8191) :
    Calls Try.prog 30 #[pv p] w fun e w' => e = .returned (.int .i64 (obits p : Int)) ∧ Below w.heap.size w w' := by
  obtain ⟨src, dst, proto, ttl, id, dont, more, off, body⟩ := p
  simp only at h ⊢
  obtain ⟨o, rfl⟩ := Int.eq_ofNat_of_zero_le (show 0 ≤ off by unfold bad at h; omega)
  have ho : o < 8192 := by unfold bad at h; omega
  clear h
  have e1 := or_16384 o ho
  have e2 := or_8192 o ho
  have e3 := or_24576 o ho
  have HO : Hid (obits ⟨src, dst, proto, ttl, id, dont, more, (o : Int), body⟩ = o + (if dont then 16384 else 0) + (if more then 8192 else 0)) := rfl
  generalize obits ⟨src, dst, proto, ttl, id, dont, more, (o : Int), body⟩ = R at *
  cases dont <;> cases more
  all_goals
    go_enter Try.func30, Try.ntmps30
    go_wp2
    go_ret
    exact ⟨ret_int (by rw [HO.out]; simp <;> omega), (Below.refl _ _).alloc (Nat.le_refl _) _⟩
end Go.Proofs.Ytlkodoiiigndoaa
