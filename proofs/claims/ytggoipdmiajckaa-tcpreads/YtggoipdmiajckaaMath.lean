/-
  Plain mathematics of check sums: what a text's bytes add up to, word by word, and what is left of it by 65535. Nothing here speaks of the program.
-/
namespace Go.Proofs.Ytggoipdmiajckaa.Pm

/-- The bytes of a text added up, those at even places times 256 (turned about where 'hi' is false). -/
def hv (hi : Bool) : List UInt8 → Nat
  | [] => 0
  | a :: r => (if hi then a.toNat * 256 else a.toNat) + hv (!hi) r

/-- What is left: 0 of 0, else from 1 to 65535. -/
def fd (n : Nat) : Nat := if n = 0 then 0 else (n - 1) % 65535 + 1

def evenLen (l : List UInt8) : Bool := l.length % 2 == 0

theorem hv_append (hi : Bool) (l m : List UInt8) : hv hi (l ++ m) = hv hi l + hv (if l.length % 2 = 0 then hi else !hi) m := by
  induction l generalizing hi with
  | nil => simp [hv]
  | cons a r ih =>
    simp only [List.cons_append, hv, ih, List.length_cons]
    by_cases h : r.length % 2 = 0
    · have h2 : ¬ (r.length + 1) % 2 = 0 := by omega
      simp [h, h2]; omega
    · have h2 : (r.length + 1) % 2 = 0 := by omega
      simp [h, h2]; omega

theorem hv_snoc (l : List UInt8) (c : UInt8) : hv true (l ++ [c]) = hv true l + if l.length % 2 = 0 then c.toNat * 256 else c.toNat := by
  rw [hv_append]
  by_cases h : l.length % 2 = 0 <;> simp [h, hv]

theorem hv_le (hi : Bool) (l : List UInt8) : hv hi l ≤ 65280 * l.length := by
  induction l generalizing hi with
  | nil => simp [hv]
  | cons a r ih =>
    have := ih (!hi)
    have ha := a.toNat_lt
    simp only [hv, List.length_cons]
    split <;> omega

theorem fd_le (n : Nat) : fd n ≤ 65535 := by unfold fd; split <;> omega
theorem fd_small (n : Nat) (h : n ≤ 65535) : fd n = n := by
  unfold fd; split
  · omega
  · rw [Nat.mod_eq_of_lt (by omega)]; omega
theorem fd_step (n : Nat) (h : 65535 < n) : fd (n / 65536 + n % 65536) = fd n := by
  unfold fd
  have : n / 65536 + n % 65536 ≠ 0 := by omega
  rw [if_neg this, if_neg (by omega)]
  omega
theorem fd_mod (n : Nat) : fd n % 65535 = n % 65535 := by
  unfold fd; split
  · simp [*]
  · omega
theorem fd_pos (n : Nat) (h : n ≠ 0) : 1 ≤ fd n := by unfold fd; rw [if_neg h]; omega
theorem fd_zero : fd 0 = 0 := rfl
/-- Two numbers that leave the same, both nought or neither, fold to the same. -/
theorem fd_eq (a b : Nat) (h : a % 65535 = b % 65535) (z : a = 0 ↔ b = 0) : fd a = fd b := by
  unfold fd
  by_cases ha : a = 0
  · have hb := z.1 ha; simp [ha, hb]
  · have hb : ¬ b = 0 := fun h => ha (z.2 h)
    rw [if_neg ha, if_neg hb]; omega
theorem fd_add (a b : Nat) : fd (fd a + fd b) = fd (a + b) := by
  have h1 := fd_mod a
  have h2 := fd_mod b
  apply fd_eq
  · omega
  · constructor
    · intro h
      by_cases ha : a = 0
      · by_cases hb : b = 0
        · omega
        · have := fd_pos b hb; omega
      · have := fd_pos a ha; omega
    · intro h
      have ha : a = 0 := by omega
      have hb : b = 0 := by omega
      simp [ha, hb, fd]

/-- The number of bytes, the highest first, in 64 bits. -/
def nv (l : List UInt8) : Nat := l.foldl (fun a b => (a * 256 + b.toNat) % 18446744073709551616) 0
theorem nv_snoc (l : List UInt8) (b : UInt8) : nv (l ++ [b]) = (nv l * 256 + b.toNat) % 18446744073709551616 := by simp [nv]
theorem nv_lt (l : List UInt8) : nv l < 18446744073709551616 := by
  rcases List.eq_nil_or_concat l with rfl | ⟨m, b, rfl⟩
  · simp [nv]
  · rw [List.concat_eq_append, nv_snoc]; omega
theorem nv_two (a b : UInt8) : nv [a, b] = a.toNat * 256 + b.toNat := by
  have := a.toNat_lt
  have := b.toNat_lt
  simp only [nv, List.foldl_cons, List.foldl_nil]; omega

/-- The lowest bytes of a number, the highest first. -/
def bb (n : Nat) : Nat → List UInt8
  | 0 => []
  | m + 1 => bb (n / 256) m ++ [UInt8.ofNat (n % 256)]
theorem bb_length (n m : Nat) : (bb n m).length = m := by
  induction m generalizing n with
  | zero => rfl
  | succ m ih => simp [bb, ih]
end Go.Proofs.Ytggoipdmiajckaa.Pm
