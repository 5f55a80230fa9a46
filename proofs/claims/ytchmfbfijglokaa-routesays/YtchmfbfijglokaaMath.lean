/-
  A tree of bits and the list of its entries, rising by address, then by bits: what a prefix more, one less, a look-up and a search make of that list. Plain mathematics.
-/
import Derived.WalkKit
import Derived.Deep.Trees
namespace Go.Proofs.Ytchmfbfijglokaa
set_option linter.unusedVariables false

/-- An entry of a table: a prefix and its way. -/
structure Ent where
  a : Nat
  b : Nat
  v : Int

/-- x stands ahead of y. -/
def Ent.lt (x y : Ent) : Prop := x.a < y.a ∨ (x.a = y.a ∧ x.b < y.b)
/-- A tree, its nodes with the blocks that they lie in, their marks and ways. -/
abbrev LT := Go.Deep.BT (Bool × Int)
/-- Its entries, in their order: b bits lead to it, those of a. -/
def toL : LT → Nat → Nat → List Ent
  | .nil, _, _ => []
  | .node _ _ (th, v) l r, a, b => (if th = true then [⟨a, b, v⟩] else []) ++ (toL l a (b + 1) ++ toL r (a + 2 ^ (31 - b)) (b + 1))
/-- No node lies behind 32 bits. -/
def fits : LT → Nat → Prop
  | .nil, _ => True
  | .node _ _ _ l r, b => b ≤ 32 ∧ fits l (b + 1) ∧ fits r (b + 1)
/-- Its blocks. -/
def blocks : LT → List Nat
  | .nil => []
  | .node k _ _ l r => k :: (blocks l ++ blocks r)
/-- One entry more, at its place. -/
def insE (e : Ent) : List Ent → List Ent
  | [] => [e]
  | x :: r => if x.a < e.a ∨ (x.a = e.a ∧ x.b < e.b) then x :: insE e r else e :: x :: r
/-- Is it this prefix? -/
def isK (pa pb : Nat) (x : Ent) : Bool := x.a == pa && x.b == pb
/-- One prefix less. -/
def delE (pa pb : Nat) (l : List Ent) : List Ent := l.filter fun x => !isK pa pb x
/-- Is it there? -/
def hasE (pa pb : Nat) (l : List Ent) : Bool := l.any (isK pa pb)

theorem isK_iff (pa pb : Nat) (x : Ent) : isK pa pb x = true ↔ x.a = pa ∧ x.b = pb := by unfold isK; simp
theorem isK_false (pa pb : Nat) (x : Ent) : isK pa pb x = false ↔ ¬ (x.a = pa ∧ x.b = pb) := by rw [← isK_iff]; simp

theorem two_half (b : Nat) (h : b ≤ 31) : 2 ^ (32 - b) = 2 ^ (31 - b) + 2 ^ (31 - b) := by
  rw [show 32 - b = (31 - b) + 1 from by omega, Nat.pow_succ]; omega

theorem fits_nil {t : LT} {b : Nat} (h : fits t b) (hb : 33 ≤ b) : t = .nil := by
  cases t with
  | nil => rfl
  | node => obtain ⟨h, _⟩ := h; omega

/-- Where the entries of a tree lie. -/
theorem toL_range (t : LT) : ∀ a b, fits t b → ∀ x ∈ toL t a b, a ≤ x.a ∧ x.a < a + 2 ^ (32 - b) ∧ b ≤ x.b ∧ x.b ≤ 32 := by
  induction t with
  | nil => intro a b _ x hx; simp [toL] at hx
  | node k o0 x0 l r ihl ihr =>
    obtain ⟨th, v⟩ := x0
    intro a b hf x hx
    obtain ⟨hb, hl, hr⟩ := hf
    rw [toL, List.mem_append, List.mem_append] at hx
    rcases hx with hx | hx | hx
    · cases th with
      | false => simp at hx
      | true =>
        rw [if_pos rfl, List.mem_singleton] at hx; subst hx
        have := Nat.two_pow_pos (32 - b)
        exact ⟨Nat.le_refl _, by show a < _; omega, Nat.le_refl _, hb⟩
    · by_cases h32 : b = 32
      · subst h32; rw [fits_nil hl (by omega)] at hx; simp [toL] at hx
      · have := ihl a (b + 1) hl x hx
        have := two_half b (by omega)
        rw [show 32 - (b + 1) = 31 - b from by omega] at *
        omega
    · by_cases h32 : b = 32
      · subst h32; rw [fits_nil hr (by omega)] at hx; simp [toL] at hx
      · have := ihr (a + 2 ^ (31 - b)) (b + 1) hr x hx
        have := two_half b (by omega)
        rw [show 32 - (b + 1) = 31 - b from by omega] at *
        omega

theorem mod_half {a b : Nat} (hb : b ≤ 31) (h : a % 2 ^ (32 - b) = 0) : a % 2 ^ (31 - b) = 0 ∧ (a + 2 ^ (31 - b)) % 2 ^ (31 - b) = 0 := by
  have e : a % 2 ^ (31 - b) = 0 := by
    have : 2 ^ (31 - b) ∣ 2 ^ (32 - b) := Nat.pow_dvd_pow 2 (by omega)
    exact Nat.mod_eq_zero_of_dvd (Nat.dvd_trans this (Nat.dvd_of_mod_eq_zero h))
  exact ⟨e, by rw [Nat.add_mod_right]; exact e⟩

/-- They are prefixes. -/
theorem toL_align (t : LT) : ∀ a b, fits t b → a % 2 ^ (32 - b) = 0 → ∀ x ∈ toL t a b, x.a % 2 ^ (32 - x.b) = 0 := by
  induction t with
  | nil => intro a b _ _ x hx; simp [toL] at hx
  | node k o0 x0 l r ihl ihr =>
    obtain ⟨th, v⟩ := x0
    intro a b hf ha x hx
    obtain ⟨hb, hl, hr⟩ := hf
    rw [toL, List.mem_append, List.mem_append] at hx
    rcases hx with hx | hx | hx
    · cases th with
      | false => simp at hx
      | true => rw [if_pos rfl, List.mem_singleton] at hx; subst hx; exact ha
    · by_cases h32 : b = 32
      · subst h32; rw [fits_nil hl (by omega)] at hx; simp [toL] at hx
      · exact ihl a (b + 1) hl (by rw [show 32 - (b + 1) = 31 - b from by omega]; exact (mod_half (by omega) ha).1) x hx
    · by_cases h32 : b = 32
      · subst h32; rw [fits_nil hr (by omega)] at hx; simp [toL] at hx
      · exact ihr (a + 2 ^ (31 - b)) (b + 1) hr (by rw [show 32 - (b + 1) = 31 - b from by omega]; exact (mod_half (by omega) ha).2) x hx

/-- They rise. -/
theorem toL_sorted (t : LT) : ∀ a b, fits t b → (toL t a b).Pairwise Ent.lt := by
  induction t with
  | nil => intro a b _; simp [toL]
  | node k o0 x0 l r ihl ihr =>
    obtain ⟨th, v⟩ := x0
    intro a b hf
    obtain ⟨hb, hl, hr⟩ := hf
    rw [toL]
    by_cases h32 : b = 32
    · subst h32
      rw [fits_nil hl (by omega), fits_nil hr (by omega)]
      cases th <;> simp [toL]
    · have hh := two_half b (by omega)
      have e1 : 32 - (b + 1) = 31 - b := by omega
      have hp := Nat.two_pow_pos (31 - b)
      refine List.pairwise_append.2 ⟨by cases th <;> simp, List.pairwise_append.2 ⟨ihl _ _ hl, ihr _ _ hr, ?_⟩, ?_⟩
      · intro x hx y hy
        have h1 := toL_range l _ _ hl x hx
        have h2 := toL_range r _ _ hr y hy
        rw [e1] at h1 h2
        left; omega
      · intro x hx y hy
        cases th with
        | false => simp at hx
        | true =>
          rw [if_pos rfl, List.mem_singleton] at hx; subst hx
          rw [List.mem_append] at hy
          rcases hy with hy | hy
          · have h2 := toL_range l _ _ hl y hy
            show a < y.a ∨ (a = y.a ∧ b < y.b)
            omega
          · have h2 := toL_range r _ _ hr y hy
            show a < y.a ∨ (a = y.a ∧ b < y.b)
            omega

theorem insE_left (e : Ent) (L R : List Ent) (h : ∀ x ∈ R, ¬ (x.a < e.a ∨ (x.a = e.a ∧ x.b < e.b))) : insE e (L ++ R) = insE e L ++ R := by
  induction L with
  | nil =>
    cases R with
    | nil => rfl
    | cons x r => show insE e (x :: r) = e :: x :: r; rw [insE.eq_2, if_neg (h x List.mem_cons_self)]
  | cons x L ih =>
    rw [List.cons_append, insE, insE]
    split
    · rw [ih]; rfl
    · rfl
theorem insE_right (e : Ent) (L R : List Ent) (h : ∀ x ∈ L, x.a < e.a ∨ (x.a = e.a ∧ x.b < e.b)) : insE e (L ++ R) = L ++ insE e R := by
  induction L with
  | nil => rfl
  | cons x L ih =>
    rw [List.cons_append, insE, if_pos (h x List.mem_cons_self), ih fun y hy => h y (List.mem_cons_of_mem _ hy)]; rfl
theorem insE_front (e : Ent) (R : List Ent) (h : ∀ x ∈ R, ¬ (x.a < e.a ∨ (x.a = e.a ∧ x.b < e.b))) : insE e R = e :: R := insE_left e [] R h
theorem insE_length (e : Ent) (l : List Ent) : (insE e l).length = l.length + 1 := by
  induction l with
  | nil => rfl
  | cons x l ih => rw [insE]; split <;> simp [ih]
theorem mem_insE (e x : Ent) (l : List Ent) : x ∈ insE e l ↔ x = e ∨ x ∈ l := by
  induction l with
  | nil => simp [insE]
  | cons y l ih =>
    rw [insE]; split
    · rw [List.mem_cons, ih, List.mem_cons]; exact ⟨fun h => by rcases h with h | h | h <;> simp [h], fun h => by rcases h with h | h | h <;> simp [h]⟩
    · simp
theorem delE_append (pa pb : Nat) (L R : List Ent) : delE pa pb (L ++ R) = delE pa pb L ++ delE pa pb R := by unfold delE; rw [List.filter_append]
theorem delE_same (pa pb : Nat) (L : List Ent) (h : ∀ x ∈ L, ¬ (x.a = pa ∧ x.b = pb)) : delE pa pb L = L := by
  unfold delE; rw [List.filter_eq_self]; intro x hx; rw [(isK_false pa pb x).2 (h x hx)]; rfl
theorem hasE_append (pa pb : Nat) (L R : List Ent) : hasE pa pb (L ++ R) = (hasE pa pb L || hasE pa pb R) := by unfold hasE; rw [List.any_append]
theorem hasE_none (pa pb : Nat) (L : List Ent) (h : ∀ x ∈ L, ¬ (x.a = pa ∧ x.b = pb)) : hasE pa pb L = false := by
  unfold hasE; rw [List.any_eq_false]; intro x hx; rw [(isK_false pa pb x).2 (h x hx)]; simp

/-- The first n bits of x. -/
def pre (x n : Nat) : Nat := x - x % 2 ^ (32 - n)
/-- The bit behind the first n ones. -/
def bitAt (x n : Nat) : Nat := x / 2 ^ (31 - n) % 2
theorem pre_le (x n : Nat) : pre x n ≤ x ∧ x < pre x n + 2 ^ (32 - n) := by
  unfold pre
  have := Nat.mod_le x (2 ^ (32 - n))
  have := Nat.mod_lt x (Nat.two_pow_pos (32 - n))
  omega
theorem pre_mod (x n : Nat) : pre x n % 2 ^ (32 - n) = 0 := by
  unfold pre
  have h := Nat.div_add_mod x (2 ^ (32 - n))
  rw [show x - x % 2 ^ (32 - n) = 2 ^ (32 - n) * (x / 2 ^ (32 - n)) from by omega]
  exact Nat.mul_mod_right _ _
theorem pre_zero (x : Nat) (h : x < 4294967296) : pre x 0 = 0 := by
  unfold pre; rw [Nat.mod_eq_of_lt (by simpa using h)]; omega
theorem pre_whole (x n : Nat) (h : x % 2 ^ (32 - n) = 0) : pre x n = x := by unfold pre; omega
theorem bitAt_lt (x n : Nat) : bitAt x n < 2 := Nat.mod_lt _ (by omega)
theorem pre_succ (x n : Nat) (h : n ≤ 31) : pre x (n + 1) = pre x n + bitAt x n * 2 ^ (31 - n) := by
  unfold pre bitAt
  rw [show 32 - (n + 1) = 31 - n from by omega]
  have e : 2 ^ (32 - n) = 2 ^ (31 - n) * 2 := by rw [← Nat.pow_succ]; congr 1; omega
  rw [e]
  have h1 : x % (2 ^ (31 - n) * 2) = x % 2 ^ (31 - n) + 2 ^ (31 - n) * (x / 2 ^ (31 - n) % 2) := Nat.mod_mul
  have h2 := Nat.mod_le x (2 ^ (31 - n) * 2)
  rw [Nat.mul_comm (x / 2 ^ (31 - n) % 2)]
  generalize 2 ^ (31 - n) * (x / 2 ^ (31 - n) % 2) = C at *
  generalize x % (2 ^ (31 - n) * 2) = A at *
  generalize x % 2 ^ (31 - n) = D at *
  omega
theorem pre_low {x n : Nat} (h : n ≤ 31) (hb : bitAt x n = 0) : pre x (n + 1) = pre x n ∧ x < pre x n + 2 ^ (31 - n) := by
  have := pre_succ x n h
  have := (pre_le x (n + 1)).2
  rw [show 32 - (n + 1) = 31 - n from by omega] at this
  rw [hb] at *; omega
theorem pre_high {x n : Nat} (h : n ≤ 31) (hb : bitAt x n = 1) : pre x (n + 1) = pre x n + 2 ^ (31 - n) ∧ pre x n + 2 ^ (31 - n) ≤ x := by
  have := pre_succ x n h
  have := (pre_le x (n + 1)).1
  rw [hb] at *; omega

/-- What an entry makes of a node that it goes through: to the left. -/
theorem ins_low {k o0 : Nat} {th : Bool} {v : Int} {l l' r : LT} {e : Ent} {n : Nat} (hn : n ≤ 31) (hb : bitAt e.a n = 0) (hlt : n < e.b) (hr : fits r (n + 1))
    (h : toL l' (pre e.a (n + 1)) (n + 1) = insE e (toL l (pre e.a (n + 1)) (n + 1))) :
    toL (.node k o0 (th, v) l' r) (pre e.a n) n = insE e (toL (.node k o0 (th, v) l r) (pre e.a n) n) := by
  obtain ⟨h1, h2⟩ := pre_low hn hb
  have h0 := (pre_le e.a n).1
  rw [h1] at h
  rw [toL, toL, insE_right _ _ _ ?_, insE_left _ _ _ ?_, h]
  · intro x hx
    have := toL_range r _ _ hr x hx
    omega
  · intro x hx
    cases th with
    | false => simp at hx
    | true => rw [if_pos rfl, List.mem_singleton] at hx; subst hx; show pre e.a n < e.a ∨ (pre e.a n = e.a ∧ n < e.b); omega
/-- To the right. -/
theorem ins_high {k o0 : Nat} {th : Bool} {v : Int} {l r r' : LT} {e : Ent} {n : Nat} (hn : n ≤ 31) (hb : bitAt e.a n = 1) (hlt : n < e.b) (hl : fits l (n + 1))
    (h : toL r' (pre e.a (n + 1)) (n + 1) = insE e (toL r (pre e.a (n + 1)) (n + 1))) :
    toL (.node k o0 (th, v) l r') (pre e.a n) n = insE e (toL (.node k o0 (th, v) l r) (pre e.a n) n) := by
  obtain ⟨h1, h2⟩ := pre_high hn hb
  have h0 := (pre_le e.a n).1
  rw [h1] at h
  rw [toL, toL, ← List.append_assoc, ← List.append_assoc, insE_right _ _ _ ?_, h]
  intro x hx
  rw [List.mem_append] at hx
  rcases hx with hx | hx
  · cases th with
    | false => simp at hx
    | true => rw [if_pos rfl, List.mem_singleton] at hx; subst hx; show pre e.a n < e.a ∨ (pre e.a n = e.a ∧ n < e.b); omega
  · have := toL_range l _ _ hl x hx
    rw [show 32 - (n + 1) = 31 - n from by omega] at this
    omega
/-- At its own node. -/
theorem ins_here {k o0 : Nat} {v : Int} {l r : LT} {e : Ent} (he : e.b ≤ 32) (hm : e.a % 2 ^ (32 - e.b) = 0) (hl : fits l (e.b + 1)) (hr : fits r (e.b + 1)) :
    toL (.node k o0 (true, e.v) l r) (pre e.a e.b) e.b = insE e (toL (.node k o0 (false, v) l r) (pre e.a e.b) e.b) := by
  rw [pre_whole _ _ hm, toL, toL, if_pos rfl, if_neg (by simp), List.nil_append, insE_front]
  · rfl
  · intro x hx
    rw [List.mem_append] at hx
    have := Nat.two_pow_pos (31 - e.b)
    rcases hx with hx | hx
    · have := toL_range l _ _ hl x hx; omega
    · have := toL_range r _ _ hr x hx; omega

theorem keyless_right {r : LT} {pa pb n : Nat} (hn : n ≤ 31) (hb : bitAt pa n = 0) (hr : fits r (n + 1)) : ∀ x ∈ toL r (pre pa n + 2 ^ (31 - n)) (n + 1), ¬ (x.a = pa ∧ x.b = pb) := by
  intro x hx
  have := toL_range r _ _ hr x hx
  have := pre_low hn hb
  omega
theorem keyless_left {l : LT} {pa pb n : Nat} (hn : n ≤ 31) (hb : bitAt pa n = 1) (hl : fits l (n + 1)) : ∀ x ∈ toL l (pre pa n) (n + 1), ¬ (x.a = pa ∧ x.b = pb) := by
  intro x hx
  have := toL_range l _ _ hl x hx
  rw [show 32 - (n + 1) = 31 - n from by omega] at this
  have := pre_high hn hb
  omega
theorem keyless_head {th : Bool} {v : Int} {a pa pb n : Nat} (hlt : n < pb) : ∀ x ∈ (if th = true then [(⟨a, n, v⟩ : Ent)] else []), ¬ (x.a = pa ∧ x.b = pb) := by
  intro x hx
  cases th with
  | false => simp at hx
  | true => rw [if_pos rfl, List.mem_singleton] at hx; subst hx; show ¬ (_ ∧ n = pb); omega

theorem del_low {k o0 : Nat} {th : Bool} {v : Int} {l l' r : LT} {pa pb n : Nat} (hn : n ≤ 31) (hb : bitAt pa n = 0) (hlt : n < pb) (hr : fits r (n + 1))
    (h : toL l' (pre pa (n + 1)) (n + 1) = delE pa pb (toL l (pre pa (n + 1)) (n + 1))) :
    toL (.node k o0 (th, v) l' r) (pre pa n) n = delE pa pb (toL (.node k o0 (th, v) l r) (pre pa n) n) := by
  obtain ⟨h1, h2⟩ := pre_low hn hb
  rw [h1] at h
  rw [toL, toL, delE_append, delE_append, delE_same _ _ _ (keyless_head hlt), delE_same _ _ _ (keyless_right hn hb hr), h]
theorem del_high {k o0 : Nat} {th : Bool} {v : Int} {l r r' : LT} {pa pb n : Nat} (hn : n ≤ 31) (hb : bitAt pa n = 1) (hlt : n < pb) (hl : fits l (n + 1))
    (h : toL r' (pre pa (n + 1)) (n + 1) = delE pa pb (toL r (pre pa (n + 1)) (n + 1))) :
    toL (.node k o0 (th, v) l r') (pre pa n) n = delE pa pb (toL (.node k o0 (th, v) l r) (pre pa n) n) := by
  obtain ⟨h1, h2⟩ := pre_high hn hb
  rw [h1] at h
  rw [toL, toL, delE_append, delE_append, delE_same _ _ _ (keyless_head hlt), delE_same _ _ _ (keyless_left hn hb hl), h]
theorem del_here {k o0 : Nat} {th : Bool} {v v' : Int} {l r : LT} {pa pb : Nat} (hp : pb ≤ 32) (hm : pa % 2 ^ (32 - pb) = 0) (hl : fits l (pb + 1)) (hr : fits r (pb + 1)) :
    toL (.node k o0 (false, v') l r) (pre pa pb) pb = delE pa pb (toL (.node k o0 (th, v) l r) (pre pa pb) pb) := by
  rw [pre_whole _ _ hm, toL, toL, delE_append, delE_append, delE_same _ _ (toL l _ _), delE_same _ _ (toL r _ _), if_neg (by simp)]
  · cases th with
    | false => rfl
    | true => rw [if_pos rfl]; simp [delE, isK]
  · intro x hx; have := toL_range r _ _ hr x hx; omega
  · intro x hx; have := toL_range l _ _ hl x hx; omega

theorem has_low {k o0 : Nat} {th : Bool} {v : Int} {l r : LT} {pa pb n : Nat} (hn : n ≤ 31) (hb : bitAt pa n = 0) (hlt : n < pb) (hr : fits r (n + 1)) :
    hasE pa pb (toL (.node k o0 (th, v) l r) (pre pa n) n) = hasE pa pb (toL l (pre pa (n + 1)) (n + 1)) := by
  rw [(pre_low hn hb).1, toL, hasE_append, hasE_append, hasE_none _ _ _ (keyless_head hlt), hasE_none _ _ _ (keyless_right hn hb hr)]; simp
theorem has_high {k o0 : Nat} {th : Bool} {v : Int} {l r : LT} {pa pb n : Nat} (hn : n ≤ 31) (hb : bitAt pa n = 1) (hlt : n < pb) (hl : fits l (n + 1)) :
    hasE pa pb (toL (.node k o0 (th, v) l r) (pre pa n) n) = hasE pa pb (toL r (pre pa (n + 1)) (n + 1)) := by
  rw [(pre_high hn hb).1, toL, hasE_append, hasE_append, hasE_none _ _ _ (keyless_head hlt), hasE_none _ _ _ (keyless_left hn hb hl)]; simp
theorem has_here {k o0 : Nat} {th : Bool} {v : Int} {l r : LT} {pa pb : Nat} (hp : pb ≤ 32) (hm : pa % 2 ^ (32 - pb) = 0) (hl : fits l (pb + 1)) (hr : fits r (pb + 1)) :
    hasE pa pb (toL (.node k o0 (th, v) l r) (pre pa pb) pb) = th := by
  rw [pre_whole _ _ hm, toL, hasE_append, hasE_append, hasE_none _ _ (toL l _ _), hasE_none _ _ (toL r _ _)]
  · cases th <;> simp [hasE, isK]
  · intro x hx; have := toL_range r _ _ hr x hx; omega
  · intro x hx; have := toL_range l _ _ hl x hx; omega

/-- x is one of the addresses of a prefix. -/
def inP (a b x : Nat) : Bool := decide (x - x % 2 ^ (32 - b) = a)
theorem inP_iff {a b x : Nat} (ha : a % 2 ^ (32 - b) = 0) : inP a b x = true ↔ a ≤ x ∧ x < a + 2 ^ (32 - b) := by
  unfold inP
  rw [decide_eq_true_eq]
  have h1 := Nat.mod_le x (2 ^ (32 - b))
  have h2 := Nat.mod_lt x (Nat.two_pow_pos (32 - b))
  constructor
  · intro h; omega
  · rintro ⟨h3, h4⟩
    obtain ⟨q, rfl⟩ := Nat.dvd_of_mod_eq_zero ha
    obtain ⟨d, rfl⟩ : ∃ d, x = 2 ^ (32 - b) * q + d := ⟨x - 2 ^ (32 - b) * q, by omega⟩
    rw [Nat.mul_add_mod, Nat.mod_eq_of_lt (by omega)]
    omega
/-- The entry behind all that have x. -/
def findF (x : Nat) (acc : Option Ent) (l : List Ent) : Option Ent := l.foldl (fun acc e => if inP e.a e.b x = true then some e else acc) acc
theorem findF_append (x : Nat) (acc : Option Ent) (L R : List Ent) : findF x acc (L ++ R) = findF x (findF x acc L) R := by unfold findF; rw [List.foldl_append]
theorem findF_none (x : Nat) (acc : Option Ent) (L : List Ent) (h : ∀ e ∈ L, inP e.a e.b x = false) : findF x acc L = acc := by
  induction L generalizing acc with
  | nil => rfl
  | cons e L ih =>
    have : findF x acc (e :: L) = findF x (if inP e.a e.b x = true then some e else acc) L := rfl
    rw [this, h e List.mem_cons_self, ih _ fun y hy => h y (List.mem_cons_of_mem _ hy)]; simp
/-- Who is not within a node's prefix is within none below it. -/
theorem find_out {t : LT} {a b x : Nat} {acc : Option Ent} (hf : fits t b) (ha : a % 2 ^ (32 - b) = 0) (h : inP a b x = false) : findF x acc (toL t a b) = acc := by
  apply findF_none
  intro e he
  cases hc : inP e.a e.b x with
  | false => rfl
  | true =>
    exfalso
    have h1 := (inP_iff (toL_align t a b hf ha e he)).1 hc
    have h2 := toL_range t a b hf e he
    have h3 : ¬ (a ≤ x ∧ x < a + 2 ^ (32 - b)) := fun hh => by rw [(inP_iff ha).2 hh] at h; cases h
    -- both ends lie within the wider prefix
    have h4 : e.a + 2 ^ (32 - e.b) ≤ a + 2 ^ (32 - b) := by
      obtain ⟨q, hq⟩ := Nat.dvd_of_mod_eq_zero (toL_align t a b hf ha e he)
      have hd : 2 ^ (32 - e.b) ∣ a + 2 ^ (32 - b) := by
        have hd2 : 2 ^ (32 - e.b) ∣ 2 ^ (32 - b) := Nat.pow_dvd_pow 2 (by omega)
        exact Nat.dvd_add (Nat.dvd_trans hd2 (Nat.dvd_of_mod_eq_zero ha)) hd2
      obtain ⟨s, hs⟩ := hd
      have hlt : 2 ^ (32 - e.b) * q < 2 ^ (32 - e.b) * s := by omega
      have : q < s := Nat.lt_of_mul_lt_mul_left hlt
      have : 2 ^ (32 - e.b) * (q + 1) ≤ 2 ^ (32 - e.b) * s := Nat.mul_le_mul_left _ this
      rw [Nat.mul_add, Nat.mul_one] at this
      omega
    omega
end Go.Proofs.Ytchmfbfijglokaa
