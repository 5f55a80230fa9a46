/-
  The queue as plain data: what came, by place; the calls as functions on it.
-/
import Derived.Test.YthdjdfemckjebaaRows
namespace Go.Proofs.Ythdjdfemckjebaa
set_option linter.unusedVariables false
set_option linter.unusedSimpArgs false

/-- A queue: what ever came, by its place; the first place that is not read; the first one without a byte; behind the furthest byte; FIN's place (0: not known). -/
structure St where
  c : Nat → Option UInt8
  f : Nat
  n : Nat
  r : Nat
  e : Nat
def over (t : St) : Bool := decide (0 < t.e ∧ t.n = t.e)
def nxt (t : St) : Nat := t.n + if over t then 1 else 0
def rdy (t : St) : Nat := t.n - t.f
def wnd (t : St) : Int := 2048 - ((t.n : Int) - (t.f : Int))
def st0 : St := ⟨fun _ => none, 1, 1, 1, 0⟩

/-- What always holds of a queue. -/
structure Ok (t : St) : Prop where
  f1 : 1 ≤ t.f
  fn : t.f ≤ t.n
  nw : t.n ≤ t.f + 2048
  all : ∀ p, t.f ≤ p → p < t.n → (t.c p).isSome = true
  at' : t.c t.n = none
  hi : ∀ p, (t.c p).isSome = true → 1 ≤ p ∧ p < t.f + 2048
  rr : ∀ p, (t.c p).isSome = true → p < t.r
  r1 : 1 ≤ t.r
  rx : t.r = 1 ∨ ∃ p, (t.c p).isSome = true ∧ p + 1 = t.r
  ee : t.e = 0 ∨ (t.n ≤ t.e ∧ t.e ≤ t.f + 2048 ∧ t.r ≤ t.e)
theorem st0_ok : Ok st0 := ⟨by decide, by decide, by decide, fun p h1 h2 => absurd h2 (Nat.not_lt.2 h1), rfl, fun p h => absurd h (by simp [st0]), fun p h => absurd h (by simp [st0]), by decide, Or.inl rfl, Or.inl rfl⟩
theorem Ok.rw {t : St} (h : Ok t) : t.r ≤ t.f + 2048 := by
  rcases h.rx with e | ⟨p, hp, e⟩
  · have := h.f1; omega
  · have := h.hi p hp; omega

/-- The first place from n on without a byte, k steps of looking. -/
def run (c : Nat → Option UInt8) : Nat → Nat → Nat
  | 0, n => n
  | k + 1, n => if (c n).isSome then run c k (n + 1) else n
theorem run_ge (c : Nat → Option UInt8) : ∀ k n, n ≤ run c k n
  | 0, n => Nat.le_refl _
  | k + 1, n => by
    unfold run
    split
    · exact Nat.le_trans (Nat.le_succ n) (run_ge c k (n + 1))
    · exact Nat.le_refl _
theorem run_all (c : Nat → Option UInt8) : ∀ k n p, n ≤ p → p < run c k n → (c p).isSome = true
  | 0, n, p, h1, h2 => by unfold run at h2; omega
  | k + 1, n, p, h1, h2 => by
    unfold run at h2
    split at h2
    · rename_i hs
      rcases Nat.eq_or_lt_of_le h1 with e | hl
      · rw [← e]; exact hs
      · exact run_all c k (n + 1) p hl h2
    · omega
theorem run_none (c : Nat → Option UInt8) {B : Nat} (hB : ∀ p, (c p).isSome = true → p < B) : ∀ k n, B ≤ n + k → c (run c k n) = none
  | 0, n, h => by
    unfold run
    rcases hc : c n with _ | x
    · rfl
    · have := hB n (by rw [hc]; rfl); omega
  | k + 1, n, h => by
    unfold run
    split
    · exact run_none c hB k (n + 1) (by omega)
    · rename_i hs
      rcases hc : c n with _ | x
      · rfl
      · rw [hc] at hs; simp at hs
/-- It is the only one. -/
theorem first_one {c : Nat → Option UInt8} {n a b : Nat} (ha : n ≤ a) (hb : n ≤ b) (a1 : ∀ p, n ≤ p → p < a → (c p).isSome = true) (a2 : c a = none) (b1 : ∀ p, n ≤ p → p < b → (c p).isSome = true) (b2 : c b = none) : a = b := by
  rcases Nat.lt_trichotomy a b with h | h | h
  · have := b1 a ha h; rw [a2] at this; cases this
  · exact h
  · have := a1 b hb h; rw [b2] at this; cases this

/-- The byte that text x brings to place p, where it begins at q. -/
def byt (x : ByteArray) (q : Int) (p : Nat) : UInt8 := x.data.toList.getD ((p : Int) - q).toNat 0
/-- Where bytes of a text are taken: from here .. -/
def fr (t : St) (q : Int) : Int := max q t.n
/-- .. to ahead of here. -/
def bh (t : St) (q : Int) (x : ByteArray) : Int := if 0 < t.e then min (min (q + x.size) (t.f + 2048)) t.e else min (q + x.size) (t.f + 2048)
def cput (t : St) (q : Int) (x : ByteArray) (p : Nat) : Option UInt8 :=
  if (t.c p).isSome then t.c p else if fr t q ≤ (p : Int) ∧ (p : Int) < bh t q x then some (byt x q p) else none
def rput (t : St) (q : Int) (x : ByteArray) : Nat := if fr t q < bh t q x then max t.r (bh t q x).toNat else t.r
/-- FIN is known from then on. -/
abbrev kn (t : St) (q : Int) (x : ByteArray) : Prop := t.e = 0 ∧ (t.n : Int) ≤ q + x.size ∧ q + x.size ≤ t.f + 2048 ∧ (rput t q x : Int) ≤ q + x.size
def eput (t : St) (q : Int) (x : ByteArray) (fin : Bool) : Nat := if fin = true ∧ kn t q x then (q + x.size).toNat else t.e
def nput (t : St) (q : Int) (x : ByteArray) : Nat := run (cput t q x) 2048 t.n
/-- What is not looked at. -/
def off (t : St) (q : Int) : Bool := decide (q < -1152921504606846976 ∨ 1152921504606846976 < q) || over t
def put (t : St) (q : Int) (x : ByteArray) (fin : Bool) : St := if off t q then t else ⟨cput t q x, t.f, nput t q x, rput t q x, eput t q x fin⟩
def moved (t : St) (q : Int) (x : ByteArray) (fin : Bool) : Bool := decide (nxt t < nxt (put t q x fin))

theorem cput_some {t : St} {q : Int} {x : ByteArray} {p : Nat} (h : (t.c p).isSome = true) : cput t q x p = t.c p := if_pos h
theorem cput_isSome {t : St} {q : Int} {x : ByteArray} {p : Nat} : (cput t q x p).isSome = true ↔ (t.c p).isSome = true ∨ (fr t q ≤ (p : Int) ∧ (p : Int) < bh t q x) := by
  unfold cput
  split
  · rename_i h; simp [h]
  · rename_i h
    split
    · rename_i h2; simp [h2]
    · rename_i h2
      constructor
      · intro h3; cases h3
      · rintro (h3 | h3)
        · exact absurd h3 h
        · exact absurd h3 h2
theorem bh_le (t : St) (q : Int) (x : ByteArray) : bh t q x ≤ t.f + 2048 ∧ bh t q x ≤ q + x.size ∧ (0 < t.e → bh t q x ≤ t.e) := by
  unfold bh; split <;> omega
theorem over_false {t : St} (h : over t = false) : t.e = 0 ∨ t.n ≠ t.e := by
  unfold over at h
  rw [decide_eq_false_iff_not] at h
  omega
theorem off_false {t : St} {q : Int} (h : off t q = false) : (-1152921504606846976 ≤ q ∧ q ≤ 1152921504606846976) ∧ over t = false := by
  unfold off at h
  rw [Bool.or_eq_false_iff, decide_eq_false_iff_not] at h
  exact ⟨by omega, h.2⟩
theorem Ok.nx0 {t : St} (h : Ok t) (q : Int) (x : ByteArray) : ∀ p, (cput t q x p).isSome = true → 1 ≤ p ∧ p < t.f + 2048 := fun p hp => by
  rcases cput_isSome.1 hp with h1 | h1
  · exact h.hi p h1
  · have := bh_le t q x
    have : (t.n : Int) ≤ fr t q := by unfold fr; omega
    have := h.fn; have := h.f1
    omega
theorem Ok.nput_none {t : St} (h : Ok t) (q : Int) (x : ByteArray) : cput t q x (nput t q x) = none := run_none _ (B := t.f + 2048) (fun p hp => (h.nx0 q x p hp).2) _ _ (by have := h.fn; omega)
theorem nput_ge (t : St) (q : Int) (x : ByteArray) : t.n ≤ nput t q x := run_ge _ _ _
theorem nput_all (t : St) (q : Int) (x : ByteArray) (p : Nat) (h1 : t.n ≤ p) (h2 : p < nput t q x) : (cput t q x p).isSome = true := run_all _ _ _ p h1 h2
theorem nput_eq {t : St} (h : Ok t) (q : Int) (x : ByteArray) {m : Nat} (hm : t.n ≤ m) (h1 : ∀ p, t.n ≤ p → p < m → (cput t q x p).isSome = true) (h2 : cput t q x m = none) : m = nput t q x :=
  first_one hm (nput_ge t q x) h1 h2 (nput_all t q x) (h.nput_none q x)
theorem Ok.nput_le {t : St} (h : Ok t) (q : Int) (x : ByteArray) : nput t q x ≤ t.f + 2048 := by
  rcases Nat.lt_or_ge (t.f + 2048) (nput t q x) with h1 | h1
  · have := h.nx0 q x (t.f + 2048) (nput_all t q x _ h.nw h1)
    omega
  · exact h1
theorem Ok.rput_rr {t : St} (h : Ok t) (q : Int) (x : ByteArray) : ∀ p, (cput t q x p).isSome = true → p < rput t q x := fun p hp => by
  unfold rput
  rcases cput_isSome.1 hp with h1 | h1
  · have := h.rr p h1; split <;> omega
  · rw [if_pos (by omega)]; omega
theorem Ok.rput_rx {t : St} (h : Ok t) (q : Int) (x : ByteArray) : rput t q x = 1 ∨ ∃ p, (cput t q x p).isSome = true ∧ p + 1 = rput t q x := by
  have old : t.r = 1 ∨ ∃ p, (cput t q x p).isSome = true ∧ p + 1 = t.r := by
    rcases h.rx with h1 | ⟨p, h1, h2⟩
    · exact Or.inl h1
    · exact Or.inr ⟨p, cput_isSome.2 (Or.inl h1), h2⟩
  unfold rput
  split
  · rename_i hl
    rcases Nat.lt_or_ge t.r (bh t q x).toNat with h1 | h1
    · refine Or.inr ⟨(bh t q x).toNat - 1, cput_isSome.2 (Or.inr ?_), by omega⟩
      have : (0 : Int) ≤ fr t q := by unfold fr; omega
      omega
    · rw [Nat.max_eq_left h1]; exact old
  · exact old
theorem Ok.put {t : St} (h : Ok t) (q : Int) (x : ByteArray) (fin : Bool) : Ok (put t q x fin) := by
  unfold Go.Proofs.Ythdjdfemckjebaa.put
  cases ho : off t q with
  | true => rw [if_pos rfl]; exact h
  | false =>
    rw [if_neg (by simp)]
    obtain ⟨_, ho⟩ := off_false ho
    have hn := nput_ge t q x
    have hle := h.nput_le q x
    have hnn := h.nput_none q x
    refine ⟨h.f1, Nat.le_trans h.fn hn, hle, fun p h1 h2 => ?_, hnn, h.nx0 q x, h.rput_rr q x, ?_, h.rput_rx q x, ?_⟩
    · rcases Nat.lt_or_ge p t.n with h3 | h3
      · exact cput_isSome.2 (Or.inl (h.all p h1 h3))
      · exact nput_all t q x p h3 h2
    · show 1 ≤ rput t q x
      have := h.r1; unfold rput; split <;> omega
    · show eput t q x fin = 0 ∨ (nput t q x ≤ eput t q x fin ∧ eput t q x fin ≤ t.f + 2048 ∧ rput t q x ≤ eput t q x fin)
      have key : ∀ E : Nat, t.n ≤ E → rput t q x ≤ E → nput t q x ≤ E := fun E h1 h2 => by
        rcases Nat.lt_or_ge E (nput t q x) with h3 | h3
        · have := h.rput_rr q x E (nput_all t q x E h1 h3)
          omega
        · exact h3
      unfold eput
      split
      · rename_i hk
        obtain ⟨_, hk⟩ := hk
        unfold kn at hk
        refine Or.inr ⟨key _ (by omega) (by omega), by omega, by omega⟩
      · rcases h.ee with h1 | ⟨h1, h2, h3⟩
        · exact Or.inl h1
        · have hr : rput t q x ≤ t.e := by
            have := bh_le t q x
            unfold rput
            have := h.f1; have := h.fn
            split <;> omega
          exact Or.inr ⟨key _ h1 hr, h2, hr⟩

/-- How many bytes a call of Read hands over. -/
def rk (t : St) (m : Int) : Nat := (min (max m 0) ((t.n : Int) - (t.f : Int))).toNat
/-- The bytes from place a on, k of them. -/
def str (c : Nat → Option UInt8) (a k : Nat) : ByteArray := ⟨((List.range k).map fun i => (c (a + i)).getD 0).toArray⟩
def rd (t : St) (m : Int) : St := ⟨t.c, t.f + rk t m, t.n, t.r, t.e⟩
theorem rk_le {t : St} (h : Ok t) (m : Int) : t.f + rk t m ≤ t.n := by have := h.fn; unfold rk; omega
theorem rk_2048 {t : St} (h : Ok t) (m : Int) : rk t m ≤ 2048 := by have := h.nw; have := h.fn; unfold rk; omega
theorem Ok.rd {t : St} (h : Ok t) (m : Int) : Ok (rd t m) := by
  have h1 := rk_le h m
  have h2 := h.fn
  have h3 := h.nw
  exact ⟨by have := h.f1; show 1 ≤ t.f + _; omega, h1, by show t.n ≤ t.f + _ + 2048; omega, fun p h4 h5 => h.all p (by have : t.f + rk t m ≤ p := h4; omega) h5, h.at', fun p hp => ⟨(h.hi p hp).1, by have := (h.hi p hp).2; show p < t.f + _ + 2048; omega⟩, h.rr, h.r1, h.rx, by
    rcases h.ee with e | ⟨e1, e2, e3⟩
    · exact Or.inl e
    · exact Or.inr ⟨e1, by show t.e ≤ t.f + _ + 2048; omega, e3⟩⟩
theorem str_size (c : Nat → Option UInt8) (a k : Nat) : (str c a k).size = k := by simp [str, ByteArray.size]
end Go.Proofs.Ythdjdfemckjebaa
