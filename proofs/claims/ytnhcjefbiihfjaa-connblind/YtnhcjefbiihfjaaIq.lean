/-
  Package inq: the queue in memory and as plain data; contracts of its functions (texts of an earlier round, put over).
-/
import Derived.Test.YtnhcjefbiihfjaaBa
namespace Go.Proofs.Ytnhcjefbiihfjaa.Iq
open Go.RowKit
set_option linter.unusedVariables false
set_option linter.unusedSimpArgs false

/-! Ms -/

/-- A queue: what ever came, by its place; the first place that is not read; the first one without a byte; behind the furthest byte; FIN's place (0: not known). -/
structure St where
  c : Nat → Option UInt8
  f : Nat
  n : Nat
  r : Nat
  e : Nat
def over (t : St) : Bool := decide (0 < t.e ∧ t.n = t.e)
def nxt (t : St) : Nat := t.n + if over t then 1 else 0
def rdy (t : St) : Nat := t.n - t.f
def wnd (t : St) : Int := 2048 - ((t.n : Int) - (t.f : Int))
def st0 : St := ⟨fun _ => none, 1, 1, 1, 0⟩

/-- What always holds of a queue. -/
structure Ok (t : St) : Prop where
  f1 : 1 ≤ t.f
  fn : t.f ≤ t.n
  nw : t.n ≤ t.f + 2048
  all : ∀ p, t.f ≤ p → p < t.n → (t.c p).isSome = true
  at' : t.c t.n = none
  hi : ∀ p, (t.c p).isSome = true → 1 ≤ p ∧ p < t.f + 2048
  rr : ∀ p, (t.c p).isSome = true → p < t.r
  r1 : 1 ≤ t.r
  rx : t.r = 1 ∨ ∃ p, (t.c p).isSome = true ∧ p + 1 = t.r
  ee : t.e = 0 ∨ (t.n ≤ t.e ∧ t.e ≤ t.f + 2048 ∧ t.r ≤ t.e)
theorem st0_ok : Ok st0 := ⟨by decide, by decide, by decide, fun p h1 h2 => absurd h2 (Nat.not_lt.2 h1), rfl, fun p h => absurd h (by simp [st0]), fun p h => absurd h (by simp [st0]), by decide, Or.inl rfl, Or.inl rfl⟩
theorem Ok.rw {t : St} (h : Ok t) : t.r ≤ t.f + 2048 := by
  rcases h.rx with e | ⟨p, hp, e⟩
  · have := h.f1; omega
  · have := h.hi p hp; omega

/-- The first place from n on without a byte, k steps of looking. -/
def run (c : Nat → Option UInt8) : Nat → Nat → Nat
  | 0, n => n
  | k + 1, n => if (c n).isSome then run c k (n + 1) else n
theorem run_ge (c : Nat → Option UInt8) : ∀ k n, n ≤ run c k n
  | 0, n => Nat.le_refl _
  | k + 1, n => by
    unfold run
    split
    · exact Nat.le_trans (Nat.le_succ n) (run_ge c k (n + 1))
    · exact Nat.le_refl _
theorem run_all (c : Nat → Option UInt8) : ∀ k n p, n ≤ p → p < run c k n → (c p).isSome = true
  | 0, n, p, h1, h2 => by unfold run at h2; omega
  | k + 1, n, p, h1, h2 => by
    unfold run at h2
    split at h2
    · rename_i hs
      rcases Nat.eq_or_lt_of_le h1 with e | hl
      · rw [← e]; exact hs
      · exact run_all c k (n + 1) p hl h2
    · omega
theorem run_none (c : Nat → Option UInt8) {B : Nat} (hB : ∀ p, (c p).isSome = true → p < B) : ∀ k n, B ≤ n + k → c (run c k n) = none
  | 0, n, h => by
    unfold run
    rcases hc : c n with _ | x
    · rfl
    · have := hB n (by rw [hc]; rfl); omega
  | k + 1, n, h => by
    unfold run
    split
    · exact run_none c hB k (n + 1) (by omega)
    · rename_i hs
      rcases hc : c n with _ | x
      · rfl
      · rw [hc] at hs; simp at hs
/-- It is the only one. -/
theorem first_one {c : Nat → Option UInt8} {n a b : Nat} (ha : n ≤ a) (hb : n ≤ b) (a1 : ∀ p, n ≤ p → p < a → (c p).isSome = true) (a2 : c a = none) (b1 : ∀ p, n ≤ p → p < b → (c p).isSome = true) (b2 : c b = none) : a = b := by
  rcases Nat.lt_trichotomy a b with h | h | h
  · have := b1 a ha h; rw [a2] at this; cases this
  · exact h
  · have := a1 b hb h; rw [b2] at this; cases this

/-- The byte that text x brings to place p, where it begins at q. -/
def byt (x : ByteArray) (q : Int) (p : Nat) : UInt8 := x.data.toList.getD ((p : Int) - q).toNat 0
/-- Where bytes of a text are taken: from here .. -/
def fr (t : St) (q : Int) : Int := max q t.n
/-- .. to ahead of here. -/
def bh (t : St) (q : Int) (x : ByteArray) : Int := if 0 < t.e then min (min (q + x.size) (t.f + 2048)) t.e else min (q + x.size) (t.f + 2048)
def cput (t : St) (q : Int) (x : ByteArray) (p : Nat) : Option UInt8 :=
  if (t.c p).isSome then t.c p else if fr t q ≤ (p : Int) ∧ (p : Int) < bh t q x then some (byt x q p) else none
def rput (t : St) (q : Int) (x : ByteArray) : Nat := if fr t q < bh t q x then max t.r (bh t q x).toNat else t.r
/-- FIN is known from then on. -/
abbrev kn (t : St) (q : Int) (x : ByteArray) : Prop := t.e = 0 ∧ (t.n : Int) ≤ q + x.size ∧ q + x.size ≤ t.f + 2048 ∧ (rput t q x : Int) ≤ q + x.size
def eput (t : St) (q : Int) (x : ByteArray) (fin : Bool) : Nat := if fin = true ∧ kn t q x then (q + x.size).toNat else t.e
def nput (t : St) (q : Int) (x : ByteArray) : Nat := run (cput t q x) 2048 t.n
/-- What is not looked at. -/
def off (t : St) (q : Int) : Bool := decide (q < -1152921504606846976 ∨ 1152921504606846976 < q) || over t
def put (t : St) (q : Int) (x : ByteArray) (fin : Bool) : St := if off t q then t else ⟨cput t q x, t.f, nput t q x, rput t q x, eput t q x fin⟩
def moved (t : St) (q : Int) (x : ByteArray) (fin : Bool) : Bool := decide (nxt t < nxt (put t q x fin))

theorem cput_some {t : St} {q : Int} {x : ByteArray} {p : Nat} (h : (t.c p).isSome = true) : cput t q x p = t.c p := if_pos h
theorem cput_isSome {t : St} {q : Int} {x : ByteArray} {p : Nat} : (cput t q x p).isSome = true ↔ (t.c p).isSome = true ∨ (fr t q ≤ (p : Int) ∧ (p : Int) < bh t q x) := by
  unfold cput
  split
  · rename_i h; simp [h]
  · rename_i h
    split
    · rename_i h2; simp [h2]
    · rename_i h2
      constructor
      · intro h3; cases h3
      · rintro (h3 | h3)
        · exact absurd h3 h
        · exact absurd h3 h2
theorem bh_le (t : St) (q : Int) (x : ByteArray) : bh t q x ≤ t.f + 2048 ∧ bh t q x ≤ q + x.size ∧ (0 < t.e → bh t q x ≤ t.e) := by
  unfold bh; split <;> omega
theorem over_false {t : St} (h : over t = false) : t.e = 0 ∨ t.n ≠ t.e := by
  unfold over at h
  rw [decide_eq_false_iff_not] at h
  omega
theorem off_false {t : St} {q : Int} (h : off t q = false) : (-1152921504606846976 ≤ q ∧ q ≤ 1152921504606846976) ∧ over t = false := by
  unfold off at h
  rw [Bool.or_eq_false_iff, decide_eq_false_iff_not] at h
  exact ⟨by omega, h.2⟩
theorem Ok.nx0 {t : St} (h : Ok t) (q : Int) (x : ByteArray) : ∀ p, (cput t q x p).isSome = true → 1 ≤ p ∧ p < t.f + 2048 := fun p hp => by
  rcases cput_isSome.1 hp with h1 | h1
  · exact h.hi p h1
  · have := bh_le t q x
    have : (t.n : Int) ≤ fr t q := by unfold fr; omega
    have := h.fn; have := h.f1
    omega
theorem Ok.nput_none {t : St} (h : Ok t) (q : Int) (x : ByteArray) : cput t q x (nput t q x) = none := run_none _ (B := t.f + 2048) (fun p hp => (h.nx0 q x p hp).2) _ _ (by have := h.fn; omega)
theorem nput_ge (t : St) (q : Int) (x : ByteArray) : t.n ≤ nput t q x := run_ge _ _ _
theorem nput_all (t : St) (q : Int) (x : ByteArray) (p : Nat) (h1 : t.n ≤ p) (h2 : p < nput t q x) : (cput t q x p).isSome = true := run_all _ _ _ p h1 h2
theorem nput_eq {t : St} (h : Ok t) (q : Int) (x : ByteArray) {m : Nat} (hm : t.n ≤ m) (h1 : ∀ p, t.n ≤ p → p < m → (cput t q x p).isSome = true) (h2 : cput t q x m = none) : m = nput t q x :=
  first_one hm (nput_ge t q x) h1 h2 (nput_all t q x) (h.nput_none q x)
theorem Ok.nput_le {t : St} (h : Ok t) (q : Int) (x : ByteArray) : nput t q x ≤ t.f + 2048 := by
  rcases Nat.lt_or_ge (t.f + 2048) (nput t q x) with h1 | h1
  · have := h.nx0 q x (t.f + 2048) (nput_all t q x _ h.nw h1)
    omega
  · exact h1
theorem Ok.rput_rr {t : St} (h : Ok t) (q : Int) (x : ByteArray) : ∀ p, (cput t q x p).isSome = true → p < rput t q x := fun p hp => by
  unfold rput
  rcases cput_isSome.1 hp with h1 | h1
  · have := h.rr p h1; split <;> omega
  · rw [if_pos (by omega)]; omega
theorem Ok.rput_rx {t : St} (h : Ok t) (q : Int) (x : ByteArray) : rput t q x = 1 ∨ ∃ p, (cput t q x p).isSome = true ∧ p + 1 = rput t q x := by
  have old : t.r = 1 ∨ ∃ p, (cput t q x p).isSome = true ∧ p + 1 = t.r := by
    rcases h.rx with h1 | ⟨p, h1, h2⟩
    · exact Or.inl h1
    · exact Or.inr ⟨p, cput_isSome.2 (Or.inl h1), h2⟩
  unfold rput
  split
  · rename_i hl
    rcases Nat.lt_or_ge t.r (bh t q x).toNat with h1 | h1
    · refine Or.inr ⟨(bh t q x).toNat - 1, cput_isSome.2 (Or.inr ?_), by omega⟩
      have : (0 : Int) ≤ fr t q := by unfold fr; omega
      omega
    · rw [Nat.max_eq_left h1]; exact old
  · exact old
theorem Ok.put {t : St} (h : Ok t) (q : Int) (x : ByteArray) (fin : Bool) : Ok (put t q x fin) := by
  unfold Go.Proofs.Ytnhcjefbiihfjaa.Iq.put
  cases ho : off t q with
  | true => rw [if_pos rfl]; exact h
  | false =>
    rw [if_neg (by simp)]
    obtain ⟨_, ho⟩ := off_false ho
    have hn := nput_ge t q x
    have hle := h.nput_le q x
    have hnn := h.nput_none q x
    refine ⟨h.f1, Nat.le_trans h.fn hn, hle, fun p h1 h2 => ?_, hnn, h.nx0 q x, h.rput_rr q x, ?_, h.rput_rx q x, ?_⟩
    · rcases Nat.lt_or_ge p t.n with h3 | h3
      · exact cput_isSome.2 (Or.inl (h.all p h1 h3))
      · exact nput_all t q x p h3 h2
    · show 1 ≤ rput t q x
      have := h.r1; unfold rput; split <;> omega
    · show eput t q x fin = 0 ∨ (nput t q x ≤ eput t q x fin ∧ eput t q x fin ≤ t.f + 2048 ∧ rput t q x ≤ eput t q x fin)
      have key : ∀ E : Nat, t.n ≤ E → rput t q x ≤ E → nput t q x ≤ E := fun E h1 h2 => by
        rcases Nat.lt_or_ge E (nput t q x) with h3 | h3
        · have := h.rput_rr q x E (nput_all t q x E h1 h3)
          omega
        · exact h3
      unfold eput
      split
      · rename_i hk
        obtain ⟨_, hk⟩ := hk
        unfold kn at hk
        refine Or.inr ⟨key _ (by omega) (by omega), by omega, by omega⟩
      · rcases h.ee with h1 | ⟨h1, h2, h3⟩
        · exact Or.inl h1
        · have hr : rput t q x ≤ t.e := by
            have := bh_le t q x
            unfold rput
            have := h.f1; have := h.fn
            split <;> omega
          exact Or.inr ⟨key _ h1 hr, h2, hr⟩

/-- How many bytes a call of Read hands over. -/
def rk (t : St) (m : Int) : Nat := (min (max m 0) ((t.n : Int) - (t.f : Int))).toNat
/-- The bytes from place a on, k of them. -/
def str (c : Nat → Option UInt8) (a k : Nat) : ByteArray := ⟨((List.range k).map fun i => (c (a + i)).getD 0).toArray⟩
def rd (t : St) (m : Int) : St := ⟨t.c, t.f + rk t m, t.n, t.r, t.e⟩
theorem rk_le {t : St} (h : Ok t) (m : Int) : t.f + rk t m ≤ t.n := by have := h.fn; unfold rk; omega
theorem rk_2048 {t : St} (h : Ok t) (m : Int) : rk t m ≤ 2048 := by have := h.nw; have := h.fn; unfold rk; omega
theorem Ok.rd {t : St} (h : Ok t) (m : Int) : Ok (rd t m) := by
  have h1 := rk_le h m
  have h2 := h.fn
  have h3 := h.nw
  exact ⟨by have := h.f1; show 1 ≤ t.f + _; omega, h1, by show t.n ≤ t.f + _ + 2048; omega, fun p h4 h5 => h.all p (by have : t.f + rk t m ≤ p := h4; omega) h5, h.at', fun p hp => ⟨(h.hi p hp).1, by have := (h.hi p hp).2; show p < t.f + _ + 2048; omega⟩, h.rr, h.r1, h.rx, by
    rcases h.ee with e | ⟨e1, e2, e3⟩
    · exact Or.inl e
    · exact Or.inr ⟨e1, by show t.e ≤ t.f + _ + 2048; omega, e3⟩⟩
theorem str_size (c : Nat → Option UInt8) (a k : Nat) : (str c a k).size = k := by simp [str, ByteArray.size]

/-! Qb -/

/-- The queue's cells. -/
structure Qs where
  bytes : Nat → UInt8
  there : Nat → Bool
  first : Int
  next : Int
  reach : Int
  fin : Int
structure QA (a : Array Value) (q : Qs) : Prop where
  size : a.size = 4100
  bytes : ∀ i, i < 2048 → a[i]? = some (.int .u8 ((q.bytes i).toNat : Int))
  there : ∀ i, i < 2048 → a[2048 + i]? = some (.bool (q.there i))
  first : a[4096]? = some (.int .i64 q.first)
  next : a[4097]? = some (.int .i64 q.next)
  reach : a[4098]? = some (.int .i64 q.reach)
  fin : a[4099]? = some (.int .i64 q.fin)
/-- A block that holds a queue. -/
def QB (b : Nat) (q : Qs) (W : World) : Prop := ∃ a, W.heap[b]? = some (.cells a 123 (0, 0)) ∧ QA a q
section
variable {b : Nat} {q : Qs} {W W' : World}
theorem QB.lt (h : QB b q W) : b < W.heap.size := by obtain ⟨a, h, _⟩ := h; exact lt_of_heap h
theorem QB.on (h : QB b q W) (he : W'.heap[b]? = W.heap[b]?) : QB b q W' := by obtain ⟨a, h1, h2⟩ := h; exact ⟨a, he.trans h1, h2⟩
theorem QB.keep (h : QB b q W) (hb : Below W.heap.size W W') : QB b q W' := h.on (hb.block _ h.lt)
theorem QB.kp {bs : List Nat} (h : QB b q W) (hk : Kp bs W W') (hn : b ∉ bs) : QB b q W' := h.on (hk.block b h.lt hn)
theorem QB.alloc (h : QB b q W) (o : Obj) : QB b q (W.alloc o) := h.on (Below.heap_alloc _ _ _ h.lt)
theorem QB.drew (h : QB b q W) : QB b q W.drew := h
theorem QB.drewN (h : QB b q W) (n : Nat) : QB b q (W.drewN n) := h
theorem QB.free (h : QB b q W) (i : Nat) : W.frozen? ⟨b, i, none⟩ = false := by obtain ⟨a, h, _⟩ := h; exact Joins.unfrozen_of_block h i
theorem QB.setOther {k : Nat} (h : QB b q W) (hk : b ≠ k) (i : Nat) (v : Value) : QB b q (W.setCell ⟨k, i, none⟩ v) := h.on (Below.heap_setCell _ _ _ _ hk)
theorem QB.cBytes (h : QB b q W) (i : Nat) (hi : i < 2048) : W.cell? ⟨b, i, none⟩ = some (.int .u8 ((q.bytes i).toNat : Int)) := by obtain ⟨a, h, h2⟩ := h; rw [Joins.cell_of_block h]; exact h2.bytes i hi
theorem QB.cThere (h : QB b q W) (i : Nat) (hi : i < 2048) : W.cell? ⟨b, 2048 + i, none⟩ = some (.bool (q.there i)) := by obtain ⟨a, h, h2⟩ := h; rw [Joins.cell_of_block h]; exact h2.there i hi
theorem QB.cFirst (h : QB b q W) : W.cell? ⟨b, 4096, none⟩ = some (.int .i64 q.first) := by obtain ⟨a, h, h2⟩ := h; rw [Joins.cell_of_block h]; exact h2.first
theorem QB.cNext (h : QB b q W) : W.cell? ⟨b, 4097, none⟩ = some (.int .i64 q.next) := by obtain ⟨a, h, h2⟩ := h; rw [Joins.cell_of_block h]; exact h2.next
theorem QB.cReach (h : QB b q W) : W.cell? ⟨b, 4098, none⟩ = some (.int .i64 q.reach) := by obtain ⟨a, h, h2⟩ := h; rw [Joins.cell_of_block h]; exact h2.reach
theorem QB.cFin (h : QB b q W) : W.cell? ⟨b, 4099, none⟩ = some (.int .i64 q.fin) := by obtain ⟨a, h, h2⟩ := h; rw [Joins.cell_of_block h]; exact h2.fin
theorem QB.setFirst (h : QB b q W) (x : Int) : QB b { q with first := x } (W.setCell ⟨b, 4096, none⟩ (.int .i64 x)) := by
  obtain ⟨a, h, h2⟩ := h
  exact ⟨_, Joins.block_setCell h _, ⟨by simp [h2.size], fun j hj => by rw [Array.getElem?_setIfInBounds_ne (by omega)]; exact h2.bytes j hj, fun j hj => by rw [Array.getElem?_setIfInBounds_ne (by omega)]; exact h2.there j hj, by rw [Array.getElem?_setIfInBounds_self_of_lt (by rw [h2.size]; omega)], by rw [Array.getElem?_setIfInBounds_ne (by omega)]; exact h2.next, by rw [Array.getElem?_setIfInBounds_ne (by omega)]; exact h2.reach, by rw [Array.getElem?_setIfInBounds_ne (by omega)]; exact h2.fin⟩⟩
theorem QB.setNext (h : QB b q W) (x : Int) : QB b { q with next := x } (W.setCell ⟨b, 4097, none⟩ (.int .i64 x)) := by
  obtain ⟨a, h, h2⟩ := h
  exact ⟨_, Joins.block_setCell h _, ⟨by simp [h2.size], fun j hj => by rw [Array.getElem?_setIfInBounds_ne (by omega)]; exact h2.bytes j hj, fun j hj => by rw [Array.getElem?_setIfInBounds_ne (by omega)]; exact h2.there j hj, by rw [Array.getElem?_setIfInBounds_ne (by omega)]; exact h2.first, by rw [Array.getElem?_setIfInBounds_self_of_lt (by rw [h2.size]; omega)], by rw [Array.getElem?_setIfInBounds_ne (by omega)]; exact h2.reach, by rw [Array.getElem?_setIfInBounds_ne (by omega)]; exact h2.fin⟩⟩
theorem QB.setReach (h : QB b q W) (x : Int) : QB b { q with reach := x } (W.setCell ⟨b, 4098, none⟩ (.int .i64 x)) := by
  obtain ⟨a, h, h2⟩ := h
  exact ⟨_, Joins.block_setCell h _, ⟨by simp [h2.size], fun j hj => by rw [Array.getElem?_setIfInBounds_ne (by omega)]; exact h2.bytes j hj, fun j hj => by rw [Array.getElem?_setIfInBounds_ne (by omega)]; exact h2.there j hj, by rw [Array.getElem?_setIfInBounds_ne (by omega)]; exact h2.first, by rw [Array.getElem?_setIfInBounds_ne (by omega)]; exact h2.next, by rw [Array.getElem?_setIfInBounds_self_of_lt (by rw [h2.size]; omega)], by rw [Array.getElem?_setIfInBounds_ne (by omega)]; exact h2.fin⟩⟩
theorem QB.setFin (h : QB b q W) (x : Int) : QB b { q with fin := x } (W.setCell ⟨b, 4099, none⟩ (.int .i64 x)) := by
  obtain ⟨a, h, h2⟩ := h
  exact ⟨_, Joins.block_setCell h _, ⟨by simp [h2.size], fun j hj => by rw [Array.getElem?_setIfInBounds_ne (by omega)]; exact h2.bytes j hj, fun j hj => by rw [Array.getElem?_setIfInBounds_ne (by omega)]; exact h2.there j hj, by rw [Array.getElem?_setIfInBounds_ne (by omega)]; exact h2.first, by rw [Array.getElem?_setIfInBounds_ne (by omega)]; exact h2.next, by rw [Array.getElem?_setIfInBounds_ne (by omega)]; exact h2.reach, by rw [Array.getElem?_setIfInBounds_self_of_lt (by rw [h2.size]; omega)]⟩⟩
theorem QB.setThere (h : QB b q W) (i : Nat) (hi : i < 2048) (x : Bool) : QB b { q with there := fun j => if j = i then x else q.there j } (W.setCell ⟨b, 2048 + i, none⟩ (.bool x)) := by
  obtain ⟨a, h, h2⟩ := h
  refine ⟨_, Joins.block_setCell h _, ⟨by simp [h2.size], fun j hj => by rw [Array.getElem?_setIfInBounds_ne (by omega)]; exact h2.bytes j hj, fun j hj => ?_, by rw [Array.getElem?_setIfInBounds_ne (by omega)]; exact h2.first, by rw [Array.getElem?_setIfInBounds_ne (by omega)]; exact h2.next, by rw [Array.getElem?_setIfInBounds_ne (by omega)]; exact h2.reach, by rw [Array.getElem?_setIfInBounds_ne (by omega)]; exact h2.fin⟩⟩
  by_cases e : j = i
  · subst e; rw [Array.getElem?_setIfInBounds_self_of_lt (by rw [h2.size]; omega)]; simp
  · rw [Array.getElem?_setIfInBounds_ne (by omega)]
    show _ = some (Value.bool (if j = i then x else q.there j))
    rw [if_neg e]; exact h2.there j hj
theorem QB.setBytes (h : QB b q W) (i : Nat) (hi : i < 2048) (x : UInt8) : QB b { q with bytes := fun j => if j = i then x else q.bytes j } (W.setCell ⟨b, i, none⟩ (.int .u8 (x.toNat : Int))) := by
  obtain ⟨a, h, h2⟩ := h
  refine ⟨_, Joins.block_setCell h _, ⟨by simp [h2.size], fun j hj => ?_, fun j hj => by rw [Array.getElem?_setIfInBounds_ne (by omega)]; exact h2.there j hj, by rw [Array.getElem?_setIfInBounds_ne (by omega)]; exact h2.first, by rw [Array.getElem?_setIfInBounds_ne (by omega)]; exact h2.next, by rw [Array.getElem?_setIfInBounds_ne (by omega)]; exact h2.reach, by rw [Array.getElem?_setIfInBounds_ne (by omega)]; exact h2.fin⟩⟩
  by_cases e : j = i
  · subst e; rw [Array.getElem?_setIfInBounds_self_of_lt (by rw [h2.size]; omega)]; simp
  · rw [Array.getElem?_setIfInBounds_ne (by omega)]
    show _ = some (Value.int .u8 ((if j = i then x else q.bytes j).toNat : Int))
    rw [if_neg e]; exact h2.bytes j hj
end
/-- A new one. -/
def qs0 : Qs := ⟨fun _ => 0, fun _ => false, 1, 1, 1, 0⟩
def ql : List Value := List.replicate 2048 (.int .u8 0) ++ (List.replicate 2048 (.bool false) ++ [.int .i64 1, .int .i64 1, .int .i64 1, .int .i64 0])
def qz : Array Value := ql.toArray
theorem run_build_q (w : World) : (Instr.build 123 #[(2, .int .i64 1), (3, .int .i64 1), (4, .int .i64 1)]).run Try.prog w = .ok (.agg qz) w := by kernel_rfl
theorem qz_get (i : Nat) : qz[i]? = ql[i]? := by unfold qz; rw [List.getElem?_toArray]
theorem qz_qa : QA qz qs0 := by
  have e2 : ∀ i, ql[2048 + i]? = (List.replicate 2048 (Value.bool false) ++ [Value.int .i64 1, .int .i64 1, .int .i64 1, .int .i64 0])[i]? := fun i => by
    unfold ql; rw [List.getElem?_append_right (by rw [List.length_replicate]; omega), List.length_replicate, Nat.add_sub_cancel_left]
  have e3 : ∀ i, ql[4096 + i]? = [Value.int .i64 1, .int .i64 1, .int .i64 1, .int .i64 0][i]? := fun i => by
    rw [show 4096 + i = 2048 + (2048 + i) from by omega, e2, List.getElem?_append_right (by rw [List.length_replicate]; omega), List.length_replicate, Nat.add_sub_cancel_left]
  refine ⟨?_, fun i hi => ?_, fun i hi => ?_, ?_, ?_, ?_, ?_⟩
  · show ql.toArray.size = 4100
    rw [List.size_toArray]; unfold ql; rw [List.length_append, List.length_replicate, List.length_append, List.length_replicate]; rfl
  · rw [qz_get]; unfold ql; rw [List.getElem?_append_left (by rw [List.length_replicate]; exact hi), List.getElem?_replicate, if_pos hi]; rfl
  · rw [qz_get, e2, List.getElem?_append_left (by rw [List.length_replicate]; exact hi), List.getElem?_replicate, if_pos hi]; rfl
  · rw [qz_get]; exact e3 0
  · rw [qz_get]; exact e3 1
  · rw [qz_get]; exact e3 2
  · rw [qz_get]; exact e3 3
theorem QB.new (W : World) : QB W.heap.size qs0 (W.alloc (.cells qz 123)) := ⟨qz, heap_alloc_new _ _, qz_qa⟩

/-- The ring of what came, from f on; what lies from n on waits. -/
def Ring (q : Qs) (c : Nat → Option UInt8) (f n : Nat) : Prop := ∀ p, f ≤ p → p < f + 2048 → q.there (p % 2048) = ((c p).isSome && decide (n ≤ p)) ∧ ∀ x, c p = some x → q.bytes (p % 2048) = x
theorem mod_ne {f p k : Nat} (h1 : f ≤ p) (h2 : p < f + 2048) (h3 : f ≤ k) (h4 : k < f + 2048) (h : p ≠ k) : p % 2048 ≠ k % 2048 := by omega
/-- One byte more. -/
theorem Ring.put {q : Qs} {c c' : Nat → Option UInt8} {f n : Nat} (h : Ring q c f n) (k : Nat) (h1 : f ≤ k) (h2 : k < f + 2048) (h3 : n ≤ k) (x : UInt8) (hk : c' k = some x) (ho : ∀ p, p ≠ k → c' p = c p) :
    Ring { q with bytes := fun j => if j = k % 2048 then x else q.bytes j, there := fun j => if j = k % 2048 then true else q.there j } c' f n := fun p p1 p2 => by
  by_cases e : p = k
  · subst e
    rw [hk]
    refine ⟨?_, fun y hy => ?_⟩
    · show (if _ then _ else _) = _
      rw [if_pos rfl]; simp [h3]
    · show (if _ then _ else _) = _
      rw [if_pos rfl]; exact Option.some.inj hy
  · have hm := mod_ne p1 p2 h1 h2 e
    rw [ho p e]
    obtain ⟨h5, h6⟩ := h p p1 p2
    refine ⟨?_, fun y hy => ?_⟩
    · show (if _ then _ else _) = _
      rw [if_neg hm]; exact h5
    · show (if _ then _ else _) = _
      rw [if_neg hm]; exact h6 y hy
/-- The first that waits, waits no more. -/
theorem Ring.step {q : Qs} {c : Nat → Option UInt8} {f n : Nat} (h : Ring q c f n) (h1 : f ≤ n) (h2 : n < f + 2048) (y : Int) :
    Ring { q with there := fun j => if j = n % 2048 then false else q.there j, next := y } c f (n + 1) := fun p p1 p2 => by
  obtain ⟨h5, h6⟩ := h p p1 p2
  refine ⟨?_, h6⟩
  show (if _ then _ else _) = _
  by_cases e : p = n
  · subst e
    rw [if_pos rfl]; simp
  · rw [if_neg (mod_ne p1 p2 h1 h2 e), h5]
    congr 1
    rw [decide_eq_decide]
    omega
/-- Does the byte at n wait? -/
theorem Ring.test {q : Qs} {c : Nat → Option UInt8} {f n : Nat} (h : Ring q c f n) (h1 : f ≤ n) (h2 : n ≤ f + 2048) (hc : ∀ p, (c p).isSome = true → p < f + 2048) (hp : 1 ≤ f) : q.there (n % 2048) = (c n).isSome := by
  rcases Nat.lt_or_ge n (f + 2048) with h3 | h3
  · rw [(h n h1 h3).1]; simp
  · obtain rfl : n = f + 2048 := by omega
    have h5 := (h f (Nat.le_refl _) (by omega)).1
    rw [show (f + 2048) % 2048 = f % 2048 from by omega, h5]
    rcases hx : c (f + 2048) with _ | x
    · simp
    · have := hc (f + 2048) (by rw [hx]; rfl)
      omega
/-- Some are read. -/
theorem Ring.read {q : Qs} {c : Nat → Option UInt8} {f n : Nat} (h : Ring q c f n) (k : Nat) (hk : f + k ≤ n) (hn : n ≤ f + 2048) (hc : ∀ p, (c p).isSome = true → p < f + 2048) (y : Int) : Ring { q with first := y } c (f + k) n := fun p p1 p2 => by
  rcases Nat.lt_or_ge p (f + 2048) with h3 | h3
  · exact h p (by omega) h3
  · have h4 : c p = none := by
      rcases hx : c p with _ | x
      · rfl
      · have := hc p (by rw [hx]; rfl); omega
    obtain ⟨h5, _⟩ := h (p - 2048) (by omega) (by omega)
    rw [show (p - 2048) % 2048 = p % 2048 from by omega] at h5
    rw [h4]
    refine ⟨?_, fun x hx => by cases hx⟩
    show q.there (p % 2048) = _
    rw [h5, decide_eq_false (by omega)]
    simp
theorem Ring.byte {q : Qs} {c : Nat → Option UInt8} {f n : Nat} (h : Ring q c f n) {p : Nat} (h1 : f ≤ p) (h2 : p < f + 2048) (hs : (c p).isSome = true) : q.bytes (p % 2048) = (c p).getD 0 := by
  rcases hx : c p with _ | x
  · rw [hx] at hs; cases hs
  · exact (h p h1 h2).2 x hx

/-! Gt -/

/-- A queue's cells: what came, in the ring from f on, waiting from n on; Next is x, furthest r, FIN e. -/
structure QM (q : Qs) (c : Nat → Option UInt8) (f n x r g : Nat) : Prop where
  ring : Ring q c f n
  first : q.first = (f : Int)
  next : q.next = (x : Int)
  reach : q.reach = (r : Int)
  fin : q.fin = (g : Int)
def OM (b : Nat) (c : Nat → Option UInt8) (f n x r g : Nat) (W : World) : Prop := ∃ q, QB b q W ∧ QM q c f n x r g
/-- A queue's cells say t. -/
def OT (b : Nat) (t : St) (W : World) : Prop := OM b t.c t.f t.n (nxt t) t.r t.e W
section
variable {b : Nat} {c : Nat → Option UInt8} {f n x r g : Nat} {t : St} {W W' : World}
theorem OM.lt (h : OM b c f n x r g W) : b < W.heap.size := by obtain ⟨q, h, _⟩ := h; exact h.lt
theorem OM.keep (h : OM b c f n x r g W) (hb : Below W.heap.size W W') : OM b c f n x r g W' := by obtain ⟨q, h, k⟩ := h; exact ⟨q, h.keep hb, k⟩
theorem OM.kp {bs : List Nat} (h : OM b c f n x r g W) (hk : Kp bs W W') (hn : b ∉ bs) : OM b c f n x r g W' := by obtain ⟨q, h, k⟩ := h; exact ⟨q, h.kp hk hn, k⟩
theorem OM.drew (h : OM b c f n x r g W) : OM b c f n x r g W.drew := h
theorem OM.drewN (h : OM b c f n x r g W) (m : Nat) : OM b c f n x r g (W.drewN m) := h
theorem OM.cFirst (h : OM b c f n x r g W) : W.cell? ⟨b, 4096, none⟩ = some (.int .i64 (f : Int)) := by obtain ⟨q, h, k⟩ := h; rw [← k.first]; exact h.cFirst
theorem OM.cNext (h : OM b c f n x r g W) : W.cell? ⟨b, 4097, none⟩ = some (.int .i64 (x : Int)) := by obtain ⟨q, h, k⟩ := h; rw [← k.next]; exact h.cNext
theorem OM.cReach (h : OM b c f n x r g W) : W.cell? ⟨b, 4098, none⟩ = some (.int .i64 (r : Int)) := by obtain ⟨q, h, k⟩ := h; rw [← k.reach]; exact h.cReach
theorem OM.cFin (h : OM b c f n x r g W) : W.cell? ⟨b, 4099, none⟩ = some (.int .i64 (g : Int)) := by obtain ⟨q, h, k⟩ := h; rw [← k.fin]; exact h.cFin
theorem OM.free (h : OM b c f n x r g W) (i : Nat) : W.frozen? ⟨b, i, none⟩ = false := by obtain ⟨q, h, k⟩ := h; exact h.free i
theorem OM.setNext (h : OM b c f n x r g W) (y : Nat) : OM b c f n y r g (W.setCell ⟨b, 4097, none⟩ (.int .i64 (y : Int))) := by obtain ⟨q, h, k⟩ := h; exact ⟨_, h.setNext _, k.ring, k.first, rfl, k.reach, k.fin⟩
theorem OM.setReach (h : OM b c f n x r g W) (y : Nat) : OM b c f n x y g (W.setCell ⟨b, 4098, none⟩ (.int .i64 (y : Int))) := by obtain ⟨q, h, k⟩ := h; exact ⟨_, h.setReach _, k.ring, k.first, k.next, rfl, k.fin⟩
theorem OM.setFin (h : OM b c f n x r g W) (y : Nat) : OM b c f n x r y (W.setCell ⟨b, 4099, none⟩ (.int .i64 (y : Int))) := by obtain ⟨q, h, k⟩ := h; exact ⟨_, h.setFin _, k.ring, k.first, k.next, k.reach, rfl⟩
theorem OM.alloc (h : OM b c f n x r g W) (o : Obj) : OM b c f n x r g (W.alloc o) := by obtain ⟨q, h, k⟩ := h; exact ⟨q, h.alloc o, k⟩
theorem OT.lt (h : OT b t W) : b < W.heap.size := OM.lt h
theorem OT.keep (h : OT b t W) (hb : Below W.heap.size W W') : OT b t W' := OM.keep h hb
theorem OT.kp {bs : List Nat} (h : OT b t W) (hk : Kp bs W W') (hn : b ∉ bs) : OT b t W' := OM.kp h hk hn
theorem OT.drewN (h : OT b t W) (n : Nat) : OT b t (W.drewN n) := OM.drewN h n
theorem OT.alloc (h : OT b t W) (o : Obj) : OT b t (W.alloc o) := OM.alloc h o
end
theorem qt0 : QM qs0 st0.c 1 1 1 1 0 := ⟨fun p h1 h2 => ⟨rfl, fun x hx => by cases hx⟩, rfl, rfl, rfl, rfl⟩

theorem wpList_build_q {ops : Array Oper} {rest : List Oper} {op : Oper} {a : Act} {w : World} {Q : Exit → Act → World → Prop} (hgd : op.guard = none)
    (ho : op.op = .build 123 #[(2, .const (.int .i64 1)), (3, .const (.int .i64 1)), (4, .const (.int .i64 1))])
    (h : wpList Try.prog ops Q rest (a.put op.dst (.agg qz)) w) : wpList Try.prog ops Q (op :: rest) a w :=
  wpList_plain hgd fun K hK => by
    have e := run_build_q w
    unfold Oper.wp execOp
    simp only [ho, Sem.run_bind, Sem.run_pure, Result.andThen_ok, List.map_toArray, List.map_cons, List.map_nil, Act.eval, e]
    exact hK _ _ h
theorem run_box_q (w : World) : (Instr.box 123 (.agg qz)).run Try.prog w = .ok (.pointer (some ⟨w.heap.size, 0, none⟩)) (w.alloc (.cells qz 123)) := by
  simp [Instr.box, newVar, Value.cells, go_sem]
theorem wpList_box_q {ops : Array Oper} {rest : List Oper} {op : Oper} {a : Act} {w : World} {Q : Exit → Act → World → Prop} (hgd : op.guard = none) (x : Operand) (ho : op.op = .box 123 x) (hx : a.eval x = .agg qz)
    (h : wpList Try.prog ops Q rest (a.put op.dst (.pointer (some ⟨w.heap.size, 0, none⟩))) (w.alloc (.cells qz 123))) : wpList Try.prog ops Q (op :: rest) a w :=
  wpList_plain hgd fun K hK => by
    unfold Oper.wp execOp
    simp only [ho, hx, Sem.run_bind, run_box_q w, Result.andThen_ok, Sem.run_pure]
    exact hK _ _ h

theorem new_any (w : World) :
    Calls Try.prog 73 #[] w fun e w' => e = .returned (.pointer (some ⟨w.heap.size, 0, none⟩)) ∧ OT w.heap.size st0 w' ∧ Below w.heap.size w w' := by
  have T0 : Hid (OT w.heap.size st0 (w.alloc (.cells qz 123))) := ⟨qs0, QB.new w, qt0⟩
  have b0 : Below w.heap.size w (w.alloc (.cells qz 123)) := (Below.refl _ _).alloc (Nat.le_refl _) _
  go_enter Try.func73, Try.ntmps73
  go_wp2_with (first | (refine wpList_build_q rfl rfl ?_) | (refine wpList_box_q rfl _ rfl rfl ?_))
  go_ret
  exact ⟨rfl, T0.out, b0⟩
section
variable {b : Nat} {c : Nat → Option UInt8} {f n x r g : Nat} {w : World}
theorem next_raw (h : OM b c f n x r g w) :
    Calls Try.prog 76 #[.pointer (some ⟨b, 0, none⟩)] w fun e w' => e = .returned (.int .i64 (x : Int)) ∧ w' = w := by
  have c1 := h.cNext
  clear h
  generalize (x : Int) = n at *
  go_enter Try.func76, Try.ntmps76
  go_wp2_with fail
  go_ret
  exact ⟨rfl, rfl⟩
theorem over_raw (h : OM b c f n x r g w) (o : Bool) (HO : o = (decide (0 < g) && decide (g < x))) :
    Calls Try.prog 89 #[.pointer (some ⟨b, 0, none⟩)] w fun e w' => e = .returned (.bool o) ∧ ∃ m, w' = w.drewN m := by
  have c1 := h.cNext
  have c2 := h.cFin
  have HO : Hid (o = (decide ((0 : Int) < (g : Int)) && decide ((g : Int) < (x : Int)))) := by
    show _ = _
    rw [HO]; congr 1 <;> rw [decide_eq_decide] <;> omega
  have he0 : (0 : Int) ≤ (g : Int) := by omega
  clear h
  rename_i HO0
  clear HO0
  generalize (x : Int) = n at *
  generalize (g : Int) = e at *
  by_cases h1 : (0 : Int) < e
  · have d1 : decide (0 < e) = true := decide_eq_true h1
    by_cases h2 : e < n
    · have d2 : decide (e < n) = true := decide_eq_true h2
      obtain rfl : o = true := by rw [HO.out, d1, d2]; rfl
      go_enter Try.func89, Try.ntmps89
      go_wp2_with fail
      go_quiet (fail)
      go_wp2_with fail
      go_ret
      exact ⟨rfl, _, rfl⟩
    · have d2 : decide (e < n) = false := decide_eq_false h2
      obtain rfl : o = false := by rw [HO.out, d1, d2]; rfl
      go_enter Try.func89, Try.ntmps89
      go_wp2_with fail
      go_quiet (fail)
      go_wp2_with fail
      go_ret
      exact ⟨rfl, _, rfl⟩
  · have d1 : decide (0 < e) = false := decide_eq_false h1
    obtain rfl : o = false := by rw [HO.out, d1]; rfl
    go_enter Try.func89, Try.ntmps89
    go_wp2_with fail
    go_quiet (fail)
    go_wp2_with fail
    go_ret
    exact ⟨rfl, _, rfl⟩
theorem ready_raw (h : OM b c f n x r g w) (o : Bool) (HO : o = (decide (0 < g) && decide (g < x))) (R : Int) (hR : R = if o = true then (g : Int) - (f : Int) else (x : Int) - (f : Int)) (hf : f ≤ 2305843009213693952) (he : g ≤ 2305843009213693952) (hx : x ≤ 2305843009213693952) :
    Calls Try.prog 78 #[.pointer (some ⟨b, 0, none⟩)] w fun e w' => e = .returned (.int .i64 R) ∧ ∃ m, w' = w.drewN m := by
  have HV := Lib.hid (over_raw h o HO)
  have H := Lib.hid h
  have b1 : (0 : Int) ≤ (f : Int) := by omega
  have b2 : (f : Int) ≤ 2305843009213693952 := by omega
  have b3 : (0 : Int) ≤ (x : Int) := by omega
  have b4 : (x : Int) ≤ 2305843009213693952 := by omega
  have b5 : (0 : Int) ≤ (g : Int) := by omega
  have b6 : (g : Int) ≤ 2305843009213693952 := by omega
  clear HO h hf he hx
  cases o with
  | true =>
    obtain rfl : R = (g : Int) - (f : Int) := hR
    go_enter Try.func78, Try.ntmps78
    go_wp2_with fail
    refine HV.out.mono ?_
    rintro e w1 ⟨rfl, hm⟩
    have H1 : OM b c f n x r g w1 := by obtain ⟨m, rfl⟩ := hm; exact H.out
    have HM := Lib.hid hm
    have c1 := H1.cFirst
    have c3 := H1.cFin
    clear HV H H1 hm
    go_wp2_with fail
    go_quiet (fail)
    go_wp2_with fail
    go_ret
    obtain ⟨m, rfl⟩ := HM.out
    exact ⟨rfl, _, World.drewN_drewN _ _ _⟩
  | false =>
    obtain rfl : R = (x : Int) - (f : Int) := hR
    go_enter Try.func78, Try.ntmps78
    go_wp2_with fail
    refine HV.out.mono ?_
    rintro e w1 ⟨rfl, hm⟩
    have H1 : OM b c f n x r g w1 := by obtain ⟨m, rfl⟩ := hm; exact H.out
    have HM := Lib.hid hm
    have c1 := H1.cFirst
    have c2 := H1.cNext
    clear HV H H1 hm
    go_wp2_with fail
    go_quiet (fail)
    go_wp2_with fail
    go_ret
    obtain ⟨m, rfl⟩ := HM.out
    exact ⟨rfl, _, World.drewN_drewN _ _ _⟩
theorem window_raw (h : OM b c f n x r g w) (o : Bool) (HO : o = (decide (0 < g) && decide (g < x))) (R : Int) (hR : R = if o = true then (g : Int) - (f : Int) else (x : Int) - (f : Int)) (hf : f ≤ 2305843009213693952) (he : g ≤ 2305843009213693952) (hx : x ≤ 2305843009213693952) (V : Int) (hV : V = 2048 - R) :
    Calls Try.prog 60 #[.pointer (some ⟨b, 0, none⟩)] w fun e w' => e = .returned (.int .i64 V) ∧ ∃ m, w' = w.drewN m := by
  have HV := Lib.hid (ready_raw h o HO R hR hf he hx)
  have h1 : -2305843009213693952 ≤ R ∧ R ≤ 2305843009213693952 := by rw [hR]; split <;> omega
  obtain ⟨h1, h2⟩ := h1
  subst hV
  clear h HO hR hf he hx
  go_enter Try.func60, Try.ntmps60
  go_wp2_with fail
  refine HV.out.mono ?_
  rintro e w1 ⟨rfl, hm⟩
  have HM := Lib.hid hm
  clear hm HV
  go_wp2_with fail
  go_ret
  exact ⟨rfl, HM.out⟩
theorem edge_raw (h : OM b c f n x r g w) (o : Bool) (HO : o = (decide (0 < g) && decide (g < x))) (R : Int) (hR : R = if o = true then (g : Int) - (f : Int) else (x : Int) - (f : Int)) (hf : f ≤ 2305843009213693952) (he : g ≤ 2305843009213693952) (hx : x ≤ 2305843009213693952) (E : Int) (hE : E = x + (2048 - R)) :
    Calls Try.prog 103 #[.pointer (some ⟨b, 0, none⟩)] w fun e w' => e = .returned (.int .i64 E) ∧ ∃ m, w' = w.drewN m := by
  obtain ⟨V, hV⟩ : ∃ V, V = 2048 - R := ⟨_, rfl⟩
  have HV : Hid (∀ m, Calls Try.prog 60 #[.pointer (some ⟨b, 0, none⟩)] (w.drewN m) fun e w' => e = .returned (.int .i64 V) ∧ ∃ m', w' = (w.drewN m).drewN m') := fun m => window_raw (h.drewN m) o HO R hR hf he hx V hV
  have h1 : -2305843009213693952 ≤ R ∧ R ≤ 2305843009213693952 := by rw [hR]; split <;> omega
  obtain ⟨h1, h2⟩ := h1
  have b3 : (0 : Int) ≤ (x : Int) := by omega
  have b4 : (x : Int) ≤ 2305843009213693952 := by omega
  have c2 := h.cNext
  rw [← hV] at hE
  subst hE
  have b5 : -2305843009213693952 ≤ V ∧ V ≤ 2305843009213696000 := by omega
  obtain ⟨b5, b6⟩ := b5
  clear h HO hR hf he hx hV h1 h2
  go_enter Try.func103, Try.ntmps103
  go_wp2_with fail
  go_quiet ((go_at_call 60; exact Calls.quiet_of (HV.out _)))
  go_wp2_with fail
  go_ret
  exact ⟨rfl, _, rfl⟩
end

/-- What the getters need. -/
structure Lo (t : St) : Prop where
  f1 : 1 ≤ t.f
  fn : t.f ≤ t.n
  nw : t.n ≤ t.f + 2048
  ee : t.e = 0 ∨ (t.n ≤ t.e ∧ t.e ≤ t.f + 2048)
theorem Ok.lo {t : St} (h : Ok t) : Lo t := ⟨h.f1, h.fn, h.nw, by rcases h.ee with e | ⟨a, b, _⟩; exact Or.inl e; exact Or.inr ⟨a, b⟩⟩
theorem over_nxt {t : St} (lo : Lo t) : over t = (decide (0 < t.e) && decide (t.e < nxt t)) := by
  have h1 := lo.ee
  unfold nxt
  cases ho : over t with
  | true =>
    unfold over at ho
    rw [decide_eq_true_eq] at ho
    rw [decide_eq_true (by omega), decide_eq_true (by simp; omega)]; rfl
  | false =>
    have := over_false ho
    rcases Nat.eq_zero_or_pos t.e with he | he
    · rw [he]; simp
    · rw [decide_eq_true (by omega), decide_eq_false (by simp; omega)]; rfl
theorem rdy_nxt {t : St} (lo : Lo t) : (rdy t : Int) = if over t = true then (t.e : Int) - (t.f : Int) else (nxt t : Int) - (t.f : Int) := by
  have := lo.fn
  unfold rdy nxt
  cases ho : over t with
  | true =>
    unfold over at ho
    rw [decide_eq_true_eq] at ho
    simp; omega
  | false => simp; omega
theorem nxt_le (t : St) : nxt t ≤ t.n + 1 := by unfold nxt; split <;> omega
section
variable {b : Nat} {t : St} {w : World}
theorem next_any (h : OT b t w) : Calls Try.prog 76 #[.pointer (some ⟨b, 0, none⟩)] w fun e w' => e = .returned (.int .i64 (nxt t : Int)) ∧ w' = w := next_raw h
theorem over_any (h : OT b t w) (lo : Lo t) : Calls Try.prog 89 #[.pointer (some ⟨b, 0, none⟩)] w fun e w' => e = .returned (.bool (over t)) ∧ ∃ m, w' = w.drewN m := over_raw h _ (over_nxt lo)
theorem ready_any (h : OT b t w) (lo : Lo t) (hf : t.f ≤ 1152921504606846976) : Calls Try.prog 78 #[.pointer (some ⟨b, 0, none⟩)] w fun e w' => e = .returned (.int .i64 (rdy t : Int)) ∧ ∃ m, w' = w.drewN m :=
  ready_raw h _ (over_nxt lo) _ (rdy_nxt lo) (by omega) (by have := lo.ee; have := lo.nw; omega) (by have := nxt_le t; have := lo.nw; omega)
theorem wnd_rdy {t : St} (lo : Lo t) : wnd t = 2048 - (rdy t : Int) := by have := lo.fn; unfold wnd rdy; omega
theorem window_any (h : OT b t w) (lo : Lo t) (hf : t.f ≤ 1152921504606846976) : Calls Try.prog 60 #[.pointer (some ⟨b, 0, none⟩)] w fun e w' => e = .returned (.int .i64 (wnd t)) ∧ ∃ m, w' = w.drewN m :=
  window_raw h _ (over_nxt lo) _ (rdy_nxt lo) (by omega) (by have := lo.ee; have := lo.nw; omega) (by have := nxt_le t; have := lo.nw; omega) _ (wnd_rdy lo)
end

/-! Ed -/

section
variable {b : Nat} {c : Nat → Option UInt8} {f n r g : Nat} {w : World}
/-- What end makes of FIN. -/
def eend (f n r g : Nat) (q : Int) : Nat := if g = 0 ∧ (n : Int) ≤ q ∧ q ≤ f + 2048 ∧ (r : Int) ≤ q then q.toNat else g

set_option maxHeartbeats 1000000 in
theorem end_any (h : OM b c f n n r g w) (q : Int) (hf : f ≤ 1152921504606846976) (hn : n ≤ f + 2048) (hg : g ≤ f + 2048) (hr : r ≤ f + 2048) :
    Calls Try.prog 100 #[.pointer (some ⟨b, 0, none⟩), .int .i64 q] w fun e w' => e = .returned (.tuple #[]) ∧ OM b c f n n r (eend f n r g q) w' ∧ Kp [b] w w' := by
  have H := Lib.hid h
  have c1 := h.cNext
  have c2 := h.cFin
  have c3 := h.cReach
  have b1 : (0 : Int) ≤ (n : Int) := by omega
  have HEq : Hid (eend f n r g q = if g = 0 ∧ (n : Int) ≤ q ∧ q ≤ f + 2048 ∧ (r : Int) ≤ q then q.toNat else g) := rfl
  by_cases h0 : g = 0
  · have d0 : decide ((g : Int) = 0) = true := decide_eq_true (by omega)
    have d0' : ((g : Int) == 0) = true := by simpa using h0
    have HV : Hid (Calls Try.prog 103 #[.pointer (some ⟨b, 0, none⟩)] w fun e w' => e = .returned (.int .i64 (f + 2048)) ∧ ∃ m, w' = w.drewN m) := edge_raw h false (by rw [h0]; rfl) ((n : Int) - (f : Int)) rfl (by omega) (by omega) (by omega) _ (by omega)
    have hg2 : (g : Int) = 0 := by omega
    by_cases h1 : (n : Int) ≤ q
    · by_cases h2 : q ≤ f + 2048
      · by_cases h3 : (r : Int) ≤ q
        · have HE : Hid (eend f n r g q = q.toNat) := by show _ = _; rw [HEq.out]; exact if_pos ⟨h0, h1, h2, h3⟩
          have HF : Hid (∀ W, OM b c f n n r g W → OM b c f n n r q.toNat (W.setCell ⟨b, 4099, none⟩ (.int .i64 q))) := fun W h => by
            have := h.setFin q.toNat
            rwa [show ((q.toNat : Nat) : Int) = q from by omega] at this
          rw [hg2] at c2
          clear h h0 d0 d0' HEq hg hr hg2
          generalize eend f n r g q = E at *
          go_enter Try.func100, Try.ntmps100
          go_wp2_with fail
          refine HV.out.mono ?_
          rintro e w1 ⟨rfl, hm⟩
          have H1 : Hid (OM b c f n n r g w1) := by obtain ⟨m, rfl⟩ := hm; exact H.out
          have K1 : Hid (Kp [b] w w1) := by obtain ⟨m, rfl⟩ := hm; exact (Kp.refl _ _).drewN _
          have c3 := H1.out.cReach
          have f3 := H1.out.free 4099
          have c4 := H1.out.cFin
          have H2 := Lib.hid (HF.out _ H1.out)
          have K2 := Lib.hid (K1.out.setCell (p := ⟨b, 4099, none⟩) (Or.inl (by simp)) (.int .i64 q))
          clear H1 K1 HV H HF hm
          go_wp2_with fail
          refine bodyPost_end (results_none rfl _ _ _) rfl ?_
          exact ⟨rfl, by rw [HE.out]; exact H2.out, K2.out⟩
        · have HE : Hid (eend f n r g q = g) := by show _ = _; rw [HEq.out]; exact if_neg (fun h => h3 h.2.2.2)
          rw [hg2] at c2
          clear h h0 d0 d0' HEq hg hr hg2
          generalize eend f n r g q = E at *
          go_enter Try.func100, Try.ntmps100
          go_wp2_with fail
          refine HV.out.mono ?_
          rintro e w1 ⟨rfl, hm⟩
          have H1 : Hid (OM b c f n n r g w1) := by obtain ⟨m, rfl⟩ := hm; exact H.out
          have K1 : Hid (Kp [b] w w1) := by obtain ⟨m, rfl⟩ := hm; exact (Kp.refl _ _).drewN _
          have c3 := H1.out.cReach
          clear HV H hm
          go_wp2_with fail
          refine bodyPost_end (results_none rfl _ _ _) rfl ?_
          exact ⟨rfl, by rw [HE.out]; exact H1.out, K1.out⟩
      · have HE : Hid (eend f n r g q = g) := by show _ = _; rw [HEq.out]; exact if_neg (fun h => h2 h.2.2.1)
        rw [hg2] at c2
        clear h h0 d0 d0' HEq hg hr hg2
        generalize eend f n r g q = E at *
        go_enter Try.func100, Try.ntmps100
        go_wp2_with fail
        refine HV.out.mono ?_
        rintro e w1 ⟨rfl, hm⟩
        have H1 : Hid (OM b c f n n r g w1) := by obtain ⟨m, rfl⟩ := hm; exact H.out
        have K1 : Hid (Kp [b] w w1) := by obtain ⟨m, rfl⟩ := hm; exact (Kp.refl _ _).drewN _
        clear HV H hm
        go_wp2_with fail
        refine bodyPost_end (results_none rfl _ _ _) rfl ?_
        exact ⟨rfl, by rw [HE.out]; exact H1.out, K1.out⟩
    · have HE : Hid (eend f n r g q = g) := by show _ = _; rw [HEq.out]; exact if_neg (fun h => h1 h.2.1)
      rw [hg2] at c2
      clear h h0 d0 d0' HEq hg hr hg2
      generalize eend f n r g q = E at *
      go_enter Try.func100, Try.ntmps100
      go_wp2_with fail
      refine bodyPost_end (results_none rfl _ _ _) rfl ?_
      exact ⟨rfl, by rw [HE.out]; exact H.out, Kp.refl _ _⟩
  · have HE : Hid (eend f n r g q = g) := by show _ = _; rw [HEq.out]; exact if_neg (fun h => h0 h.1)
    have d0 : ((g : Int) == 0) = false := by simpa using h0
    have d1 : ¬ (g : Int) = 0 := by omega
    clear h h0 HEq hg hr
    generalize eend f n r g q = E at *
    go_enter Try.func100, Try.ntmps100
    go_wp2_with fail
    refine bodyPost_end (results_none rfl _ _ _) rfl ?_
    exact ⟨rfl, by rw [HE.out]; exact H.out, Kp.refl _ _⟩

/-- What move's loop keeps: Next is m. -/
theorem OM.test {m : Nat} {W : World} (h : OM b c f m m r g W) (h1 : f ≤ m) (h2 : m ≤ f + 2048) (hc : ∀ p, (c p).isSome = true → p < f + 2048) (hp : 1 ≤ f) : W.cell? ⟨b, 2048 + m % 2048, none⟩ = some (.bool (c m).isSome) := by
  obtain ⟨q, hq, k⟩ := h
  rw [hq.cThere _ (by omega), k.ring.test h1 h2 hc hp]
theorem OM.step {m : Nat} {W : World} (h : OM b c f m m r g W) (h1 : f ≤ m) (h2 : m < f + 2048) : OM b c f (m + 1) (m + 1) r g ((W.setCell ⟨b, 2048 + m % 2048, none⟩ (.bool false)).setCell ⟨b, 4097, none⟩ (.int .i64 ((m : Int) + 1))) := by
  obtain ⟨q, hq, k⟩ := h
  have := (hq.setThere (m % 2048) (by omega) false).setNext ((m : Int) + 1)
  exact ⟨_, this, k.ring.step h1 h2 _, k.first, by show (m : Int) + 1 = _; omega, k.reach, k.fin⟩
end

/-! Mv -/

section
variable {b : Nat} {c : Nat → Option UInt8} {f n r g : Nat} {w : World}
set_option maxHeartbeats 2000000 in
theorem move_any (h : OM b c f n n r g w) (f1 : 1 ≤ f) (hf : f ≤ 1152921504606846976) (fn : f ≤ n) (hn : n ≤ f + 2048) (hc : ∀ p, (c p).isSome = true → p < f + 2048) (k : Nat) (hk1 : n ≤ k) (hk2 : ∀ p, n ≤ p → p < k → (c p).isSome = true) (hk3 : c k = none) (x : Nat) (hx : x = if k = g then k + 1 else k) (mv : Bool) (hmv : mv = decide (n < x)) :
    Calls Try.prog 101 #[.pointer (some ⟨b, 0, none⟩)] w fun e w' => e = .returned (.bool mv) ∧ OM b c f k x r g w' ∧ Kp [b] w w' := by
  have hk4 : k ≤ f + 2048 := by
    rcases Nat.lt_or_ge (f + 2048) k with h1 | h1
    · have := hc (f + 2048) (hk2 _ hn h1); omega
    · exact h1
  have H := Lib.hid h
  have c1 := h.cNext
  have HC := Lib.hid hc
  have HK2 := Lib.hid hk2
  have HK3 : Hid (c k = none) := hk3
  have HM := Lib.hid hmv
  clear h hc hk2 hk3 hmv
  go_enter Try.func101, Try.ntmps101
  go_wp2_with fail
  go_loopw [17] (fun _ W => ∃ m : Nat, n ≤ m ∧ m ≤ k ∧ OM b c f m m r g W ∧ Kp [b] w W) (fun _ W => f + 2048 - (match W.cell? ⟨b, 4097, none⟩ with | some v => (intOf v).toNat | none => 0))
  case atStart => exact ⟨n, Nat.le_refl _, hk1, H.out, Kp.refl _ _⟩
  case round =>
    obtain ⟨m, hm1, hm2, hO, hK⟩ := hrel
    have HO := Lib.hid hO
    have HK := Lib.hid hK
    clear hO hK H c1
    have b1 : (0 : Int) ≤ (m : Int) := by omega
    have b2 : (m : Int) ≤ 1152921504606849024 := by omega
    have c1 := HO.out.cNext
    have ct := HO.out.test (by omega) (by omega) HC.out f1
    have f1' := HO.out.free (2048 + m % 2048)
    rcases Nat.lt_or_ge m k with hlt | hge
    · rw [HK2.out m hm1 hlt] at ct
      have HS : Hid (∀ N, OM b c f (m + 1) (m + 1) r g (((wr.drewN N).setCell ⟨b, 2048 + m % 2048, none⟩ (.bool false)).setCell ⟨b, 4097, none⟩ (.int .i64 ((m : Int) + 1)))) := fun N => (HO.out.drewN N).step (by omega) (by omega)
      have KS : Hid (∀ N, Kp [b] w (((wr.drewN N).setCell ⟨b, 2048 + m % 2048, none⟩ (.bool false)).setCell ⟨b, 4097, none⟩ (.int .i64 ((m : Int) + 1)))) := fun N => ((HK.out.drewN N).setCell (Or.inl (by simp)) _).setCell (Or.inl (by simp)) _
      have CS : Hid (∀ N, ((wr.drewN N).setCell ⟨b, 2048 + m % 2048, none⟩ (.bool false)).cell? ⟨b, 4097, none⟩ = some (.int .i64 (m : Int)) ∧ ((wr.drewN N).setCell ⟨b, 2048 + m % 2048, none⟩ (.bool false)).frozen? ⟨b, 4097, none⟩ = false) := fun N => by
        obtain ⟨q, hq, k⟩ := HO.out
        have := (hq.drewN N).setThere (m % 2048) (by omega) false
        exact ⟨by rw [this.cNext]; exact congrArg _ (val_int k.next), this.free 4097⟩
      go_wp2_with fail
      go_quiet (fail)
      go_wp2_with fail
      go_region
      obtain ⟨c2, f2⟩ := CS.out (nq + 1)
      have HN := Lib.hid (HS.out (nq + 1))
      have KN := Lib.hid (KS.out (nq + 1))
      have cm := HN.out.cNext
      clear CS HS KS ct f1'
      generalize (wr.drewN (nq + 1)).setCell ⟨b, 2048 + m % 2048, none⟩ (.bool false) = W2 at *
      have CM := Lib.hid cm
      clear cm
      go_wp2_with fail
      go_roundw
      case rel => exact ⟨m + 1, by omega, by omega, HN.out, KN.out⟩
      case measure =>
        rw [CM.out, c1]
        simp only [intOf]
        omega
    · obtain rfl : m = k := by omega
      rw [HK3.out] at ct
      have ct : wr.cell? ⟨b, 2048 + m % 2048, none⟩ = some (.bool false) := ct
      have cg := HO.out.cFin
      clear f1'
      by_cases hg : m = g
      · have hx1 : x = m + 1 := by rw [hx]; exact if_pos hg
        have d1 : ((m : Int) == (g : Int)) = true := beq_iff_eq.2 (by omega)
        have d2 : (m : Int) = (g : Int) := by omega
        have d3 : decide ((n : Int) < (m : Int) + 1) = true := decide_eq_true (by omega)
        have HD : Hid (mv = true) := by show _ = _; rw [HM.out]; exact decide_eq_true (by omega)
        have HS : Hid (∀ N, OM b c f m x r g ((wr.drewN N).setCell ⟨b, 4097, none⟩ (.int .i64 ((m : Int) + 1)))) := fun N => by
          have := (HO.out.drewN N).setNext (m + 1)
          rw [hx1]; exact this
        have KS : Hid (∀ N, Kp [b] w ((wr.drewN N).setCell ⟨b, 4097, none⟩ (.int .i64 ((m : Int) + 1)))) := fun N => ((HK.out.drewN N).setCell (Or.inl (by simp)) _)
        have f2 := HO.out.free 4097
        clear hx hx1 hg d2
        go_wp2_with fail
        go_quiet (fail)
        go_wp2_with fail
        go_quiet (fail)
        go_wp2_with fail
        go_ret
        exact ⟨ret_bool HD.out.symm, HS.out _, KS.out _⟩
      · have hx1 : x = m := by rw [hx]; exact if_neg hg
        have d1 : ((m : Int) == (g : Int)) = false := beq_eq_false_iff_ne.2 (by omega)
        have d2 : ¬ (m : Int) = (g : Int) := by omega
        subst hx1
        clear hx hg
        have HD : Hid (mv = decide ((n : Int) < (x : Int))) := by show _ = _; rw [HM.out, decide_eq_decide]; omega
        go_wp2_with fail
        go_quiet (fail)
        go_wp2_with fail
        go_quiet (fail)
        go_wp2_with fail
        go_ret
        exact ⟨ret_bool HM.out.symm, HO.out.drewN _, HK.out.drewN _⟩
end

/-! Tk -/

/-- What has come when the places ahead of k were gone over. -/
def cmid (t : St) (q : Int) (x : ByteArray) (k : Nat) (p : Nat) : Option UInt8 := if p < k then cput t q x p else t.c p
theorem cmid_start {t : St} {q : Int} {x : ByteArray} {k : Nat} (h : (k : Int) ≤ fr t q) : cmid t q x k = t.c := by
  funext p
  unfold cmid cput
  split
  · split
    · rfl
    · rename_i hs
      rw [if_neg (by omega)]
      cases hc : t.c p with
      | none => rfl
      | some y => rw [hc] at hs; simp at hs
  · rfl
theorem cput_out {t : St} {q : Int} {x : ByteArray} {p : Nat} (h : ¬ (fr t q ≤ (p : Int) ∧ (p : Int) < bh t q x)) : cput t q x p = t.c p := by
  unfold cput
  split
  · rfl
  · rename_i hs
    cases hc : t.c p with
    | none => simp [h]
    | some y => rw [hc] at hs; simp at hs
theorem cmid_end {t : St} {q : Int} {x : ByteArray} {k : Nat} (h : bh t q x ≤ (k : Int)) : cmid t q x k = cput t q x := by
  funext p
  unfold cmid
  split
  · rfl
  · exact (cput_out (by omega)).symm
theorem cmid_stays {t : St} {q : Int} {x : ByteArray} {k : Nat} (h : (t.c k).isSome = true) : cmid t q x (k + 1) = cmid t q x k := by
  funext p
  unfold cmid
  by_cases e : p = k
  · subst e; rw [if_pos (by omega), if_neg (by omega)]; exact cput_some h
  · by_cases h1 : p < k
    · rw [if_pos (by omega), if_pos h1]
    · rw [if_neg (by omega), if_neg h1]
theorem cmid_same (t : St) (q : Int) (x : ByteArray) (k : Nat) {p : Nat} (h : p ≠ k) : cmid t q x (k + 1) p = cmid t q x k p := by
  unfold cmid
  by_cases h1 : p < k
  · rw [if_pos (by omega), if_pos h1]
  · rw [if_neg (by omega), if_neg h1]
theorem cmid_at (t : St) (q : Int) (x : ByteArray) (k : Nat) : cmid t q x k k = t.c k := by unfold cmid; rw [if_neg (by omega)]
theorem cmid_new {t : St} {q : Int} {x : ByteArray} {k : Nat} (h : t.c k = none) (h1 : fr t q ≤ (k : Int)) (h2 : (k : Int) < bh t q x) : cmid t q x (k + 1) k = some (byt x q k) := by
  unfold cmid cput
  rw [if_pos (by omega), h, if_neg (by simp), if_pos ⟨h1, h2⟩]
theorem not_over_nxt {t : St} (h : over t = false) : nxt t = t.n := by unfold nxt; rw [h]; simp

theorem getD_data (s : ByteArray) (k : Nat) (h : k < s.size) : s.data.toList.getD k 0 = s[k] := by
  rw [List.getD_eq_getElem?_getD, List.getElem?_eq_getElem (by rw [← Lib.size_eq]; exact h), Option.getD_some]; rfl
theorem index_at (s : ByteArray) (k : Nat) (h : k < s.size) (w : World) : (Instr.index 9 (.string s) (.int .i64 (k : Int))).run Try.prog w = .ok (.int .u8 ((s.data.toList.getD k 0).toNat : Int)) w := by
  have := run_index_string (P := Try.prog) (w := w) 9 s .i64 (k : Int) Try.underlying9
  rw [getD_data s k h, this]
  simp [h]

set_option maxHeartbeats 2000000 in
theorem index_of (s : ByteArray) (q : Int) (h0 : 0 ≤ q) (h : q < s.size) (w : World) : (Instr.index 9 (.string s) (.int .i64 q)).run Try.prog w = .ok (.int .u8 ((s.data.toList.getD q.toNat 0).toNat : Int)) w := by
  obtain ⟨k, rfl⟩ := Int.eq_ofNat_of_zero_le h0
  exact index_at s k (by omega) w
section
variable {b : Nat} {t : St} {w : World}
theorem OM.there' {c : Nat → Option UInt8} {f n x r g : Nat} {W : World} (h : OM b c f n x r g W) {k : Nat} (h1 : f ≤ k) (h2 : k < f + 2048) (h3 : n ≤ k) : W.cell? ⟨b, 2048 + k % 2048, none⟩ = some (.bool (c k).isSome) := by
  obtain ⟨q, hq, kk⟩ := h
  rw [hq.cThere _ (by omega), (kk.ring k h1 h2).1, decide_eq_true h3]; simp
theorem OM.byte' {c : Nat → Option UInt8} {f n x r g : Nat} {W : World} (h : OM b c f n x r g W) (k : Nat) : ∃ y : UInt8, W.cell? ⟨b, k % 2048, none⟩ = some (.int .u8 (y.toNat : Int)) := by
  obtain ⟨q, hq, kk⟩ := h
  exact ⟨_, hq.cBytes _ (by omega)⟩
theorem OM.putByte {c c' : Nat → Option UInt8} {f n x r g : Nat} {W : World} (h : OM b c f n x r g W) (k : Nat) (h1 : f ≤ k) (h2 : k < f + 2048) (h3 : n ≤ k) (y : UInt8) (hk : c' k = some y) (ho : ∀ p, p ≠ k → c' p = c p) :
    OM b c' f n x r g ((W.setCell ⟨b, k % 2048, none⟩ (.int .u8 (y.toNat : Int))).setCell ⟨b, 2048 + k % 2048, none⟩ (.bool true)) := by
  obtain ⟨q, hq, kk⟩ := h
  exact ⟨_, (hq.setBytes (k % 2048) (by omega) y).setThere (k % 2048) (by omega) true, kk.ring.put k h1 h2 h3 y hk ho, kk.first, kk.next, kk.reach, kk.fin⟩

set_option maxHeartbeats 4000000 in
theorem take_any (h : OT b t w) (ok : Ok t) (ho : over t = false) (hf : t.f ≤ 1152921504606846976) (q : Int) (q1 : -1152921504606846976 ≤ q) (q2 : q ≤ 1152921504606846976) (x : ByteArray) (hx : x.size ≤ 1152921504606846976) :
    Calls Try.prog 99 #[.pointer (some ⟨b, 0, none⟩), .int .i64 q, .string x] w fun e w' => e = .returned (.tuple #[]) ∧ OM b (cput t q x) t.f t.n t.n (rput t q x) t.e w' ∧ Kp [b] w w' := by
  have lo := ok.lo
  have hnx := not_over_nxt ho
  have H : Hid (OM b t.c t.f t.n t.n t.r t.e w) := by have h := h; unfold OT at h; rw [hnx] at h; exact h
  have hn := ok.nw
  have hfn := ok.fn
  have hf1 := ok.f1
  have hrw := ok.rw
  have he := lo.ee
  have HV : Hid (∀ m, Calls Try.prog 103 #[.pointer (some ⟨b, 0, none⟩)] (w.drewN m) fun e w' => e = .returned (.int .i64 ((t.f : Int) + 2048)) ∧ ∃ m', w' = (w.drewN m).drewN m') := fun m => by
    have h1 := over_nxt lo
    rw [ho, hnx] at h1
    exact edge_raw (H.out.drewN m) false h1 ((t.n : Int) - (t.f : Int)) rfl (by omega) (by omega) (by omega) _ (by omega)
  have c1 := H.out.cNext
  have c2 := H.out.cFin
  have HR : Hid (rput t q x = if fr t q < bh t q x then max t.r (bh t q x).toNat else t.r) := rfl
  have HB : Hid (bh t q x = if 0 < t.e then min (min (q + x.size) (t.f + 2048)) t.e else min (q + x.size) (t.f + 2048)) := rfl
  have HFr : Hid (fr t q = max q t.n) := rfl
  clear h ok lo
  go_enter Try.func99, Try.ntmps99
  go_wp2_with fail
  refine (HV.out 0).mono ?_
  rintro e w1 ⟨rfl, hm⟩
  have H1 : Hid (OM b t.c t.f t.n t.n t.r t.e w1) := by obtain ⟨m, rfl⟩ := hm; exact H.out
  have K1 : Hid (Kp [b] w w1) := by obtain ⟨m, rfl⟩ := hm; exact ((Kp.refl _ _).drewN _).drewN _
  have c1 := H1.out.cNext
  have c2 := H1.out.cFin
  clear HV H hm
  go_upto_if 27 with fail
  go_cut [7] from 27 to 33 (fun v wc => v = .int .i64 (bh t q x) ∧ wc = w1)
  case first =>
    by_cases he : 0 < t.e
    · have d1 : (0 : Int) < (t.e : Int) := by omega
      go_wp2_with fail
      go_meet
      case rel => exact ⟨val_int (by rw [HB.out, if_pos he]; omega), rfl⟩
    · have d1 : ¬ (0 : Int) < (t.e : Int) := by omega
      go_wp2_with fail
      go_meet
      case rel => exact ⟨val_int (by rw [HB.out, if_neg he]), rfl⟩
  case rest =>
    obtain ⟨rfl, hcc⟩ := hcut
    subst hcc
    obtain ⟨z1, z2, z3⟩ := bh_le t q x
    have f0 : (t.n : Int) ≤ max q (t.n : Int) := by omega
    have f2 : q ≤ max q (t.n : Int) := by omega
    have f3 : max q (t.n : Int) ≤ 1152921504606849024 := by omega
    have z4 : -1152921504606846976 ≤ bh t q x := by rw [HB.out]; split <;> omega
    have HFe : Hid (max q (t.n : Int) = fr t q) := HFr.out.symm
    have HBe : Hid (bh t q x = bh t q x) := rfl
    clear z3 HB HFr
    generalize hBB : bh t q x = B at *
    generalize max q (t.n : Int) = F at *
    have HBB := Lib.hid hBB
    clear hBB HBe
    by_cases hlt : F < B
    · have HRe : Hid (rput t q x = max t.r B.toNat) := by show _ = _; rw [HR.out]; exact if_pos (by rw [← HFe.out]; exact hlt)
      clear HR
      obtain ⟨k0, hk0⟩ := Int.eq_ofNat_of_zero_le (show 0 ≤ F by omega)
      go_wp2_with fail
      go_loopw [8] (fun i W => ∃ k : Nat, F ≤ (k : Int) ∧ (k : Int) ≤ B ∧ i = .int .i64 k ∧ OM b (cmid t q x k) t.f t.n t.n t.r t.e W ∧ Kp [b] w W) (fun i _ => B.toNat - (intOf i).toNat)
      case atStart => exact ⟨k0, by omega, by omega, val_int hk0, by rw [cmid_start (by rw [← HFe.out]; omega)]; exact H1.out, K1.out⟩
      case round =>
        obtain ⟨k, hk1, hk2, rfl, hO, hK⟩ := hrel
        have O := Lib.hid hO
        have K := Lib.hid hK
        clear hO hK H1 K1 c1 c2 hk0
        by_cases hkB : (k : Int) < B
        · have ct := O.out.there' (k := k) (by omega) (by omega) (by omega)
          rw [cmid_at] at ct
          cases hs : (t.c k).isSome with
          | true =>
            rw [hs] at ct
            have HE := Lib.hid (cmid_stays (q := q) (x := x) hs)
            clear hs
            go_wp2_with fail
            go_roundw
            case rel => exact ⟨k + 1, by omega, by omega, by go_num, by rw [HE.out]; exact O.out, K.out⟩
            case measure => simp only [intOf]; omega
          | false =>
            rw [hs] at ct
            have hn0 : t.c k = none := by
              cases hc : t.c k with
              | none => rfl
              | some y => rw [hc] at hs; cases hs
            have HN : Hid (∀ N, OM b (cmid t q x (k + 1)) t.f t.n t.n t.r t.e (((wr.drewN N).setCell ⟨b, k % 2048, none⟩ (.int .u8 ((byt x q k).toNat : Int))).setCell ⟨b, 2048 + k % 2048, none⟩ (.bool true))) := fun N =>
              (O.out.drewN N).putByte k (by omega) (by omega) (by omega) (byt x q k) (cmid_new hn0 (by rw [← HFe.out]; exact hk1) (by rw [HBB.out]; exact hkB)) (fun p hp => cmid_same t q x k hp)
            have HK : Hid (∀ N, Kp [b] w (((wr.drewN N).setCell ⟨b, k % 2048, none⟩ (.int .u8 ((byt x q k).toNat : Int))).setCell ⟨b, 2048 + k % 2048, none⟩ (.bool true))) := fun N => ((K.out.drewN N).setCell (Or.inl (by simp)) _).setCell (Or.inl (by simp)) _
            have hix : ∀ w', (Instr.index 9 (.string x) (.int .i64 ((k : Int) - q))).run Try.prog w' = .ok (.int .u8 ((byt x q k).toNat : Int)) w' := fun w' => index_of x _ (by omega) (by omega) w'
            obtain ⟨y, cb⟩ := O.out.byte' k
            have fb := O.out.free (k % 2048)
            have ft := O.out.free (2048 + k % 2048)
            generalize byt x q k = Y at *
            clear hs hn0
            go_wp2_with fail
            go_region
            go_wp2_with fail
            go_roundw
            case rel => exact ⟨k + 1, by omega, by omega, by go_num, HN.out 1, HK.out 1⟩
            case measure => simp only [intOf]; omega
        · obtain rfl : (k : Int) = B := by omega
          have cr := O.out.cReach
          have fr' := O.out.free 4098
          have HE : Hid (cmid t q x k = cput t q x) := cmid_end (by rw [HBB.out]; exact Int.le_refl _)
          have HN : Hid (OM b (cput t q x) t.f t.n t.n (rput t q x) t.e (wr.setCell ⟨b, 4098, none⟩ (.int .i64 (max (t.r : Int) (k : Int))))) := by
            have := O.out.setReach (rput t q x)
            rw [HE.out] at this
            rw [show max (t.r : Int) (k : Int) = (rput t q x : Int) from by rw [HRe.out]; simp; omega]
            exact this
          have HK : Hid (Kp [b] w (wr.setCell ⟨b, 4098, none⟩ (.int .i64 (max (t.r : Int) (k : Int))))) := K.out.setCell (Or.inl (by simp)) _
          clear HRe
          go_wp2_with fail
          refine bodyPost_end (results_none rfl _ _ _) rfl ?_
          exact ⟨rfl, HN.out, HK.out⟩
    · have HRe : Hid (rput t q x = t.r) := by show _ = _; rw [HR.out]; exact if_neg (by rw [← HFe.out]; exact hlt)
      have HN : Hid (OM b (cput t q x) t.f t.n t.n (rput t q x) t.e wc) := by
        rw [HRe.out]
        have e : cput t q x = t.c := by funext p; exact cput_out (by rw [← HFe.out, HBB.out]; omega)
        rw [e]; exact H1.out
      clear HR HRe
      go_wp2_with fail
      refine bodyPost_ret (results_none rfl _ _ _) rfl ?_
      exact ⟨rfl, HN.out, K1.out⟩
end

/-! Pt -/

theorem put_on {t : St} {q : Int} (x : ByteArray) (fin : Bool) (h : off t q = false) : put t q x fin = ⟨cput t q x, t.f, nput t q x, rput t q x, eput t q x fin⟩ := by unfold put; rw [if_neg (by rw [h]; simp)]
theorem put_off {t : St} {q : Int} (x : ByteArray) (fin : Bool) (h : off t q = true) : put t q x fin = t := by unfold put; rw [if_pos h]
theorem nxt_put {t : St} (ok : Ok t) {q : Int} (x : ByteArray) (fin : Bool) (h : off t q = false) : nxt (put t q x fin) = if nput t q x = eput t q x fin then nput t q x + 1 else nput t q x := by
  rw [put_on x fin h]
  show nput t q x + (if over ⟨cput t q x, t.f, nput t q x, rput t q x, eput t q x fin⟩ then 1 else 0) = _
  unfold over
  have h1 := nput_ge t q x
  have h2 := ok.f1
  have h3 := ok.fn
  by_cases he : nput t q x = eput t q x fin
  · rw [if_pos he, if_pos (by rw [decide_eq_true_eq]; exact ⟨by show 0 < eput t q x fin; omega, he⟩)]
  · rw [if_neg he, if_neg (by rw [decide_eq_true_eq]; exact fun h => he h.2)]; rfl
theorem eput_true (t : St) (q : Int) (x : ByteArray) : eput t q x true = eend t.f t.n (rput t q x) t.e (q + x.size) := by
  unfold eput eend
  congr 1
  simp [kn]
theorem eput_false (t : St) (q : Int) (x : ByteArray) : eput t q x false = t.e := by unfold eput; simp
theorem rput_le {t : St} (ok : Ok t) (q : Int) (x : ByteArray) : rput t q x ≤ t.f + 2048 := by
  have := ok.rw
  have := bh_le t q x
  unfold rput; split <;> omega

section
variable {b : Nat} {t : St} {w : World}
set_option maxHeartbeats 4000000 in
theorem put_any (h : OT b t w) (ok : Ok t) (hf : t.f ≤ 1152921504606846976) (q : Int) (q1 : -9223372036854775808 ≤ q) (q2 : q ≤ 9223372036854775807) (x : ByteArray) (hx : x.size ≤ 1152921504606846976) (fin : Bool) :
    Calls Try.prog 92 #[.pointer (some ⟨b, 0, none⟩), .int .i64 q, .string x, .bool fin] w fun e w' => e = .returned (.bool (moved t q x fin)) ∧ OT b (put t q x fin) w' ∧ Kp [b] w w' := by
  have HO := Lib.hid (over_any h ok.lo)
  have H := Lib.hid h
  by_cases hq : q < -1152921504606846976 ∨ 1152921504606846976 < q
  · have ho : off t q = true := by unfold off; rw [decide_eq_true hq]; rfl
    have HM : Hid (moved t q x fin = false) := by show _ = _; unfold moved; rw [put_off x fin ho]; exact decide_eq_false (by omega)
    have HP : Hid (put t q x fin = t) := put_off x fin ho
    clear h ok ho
    by_cases hq1 : q < -1152921504606846976
    · clear hq
      go_enter Try.func92, Try.ntmps92
      go_wp2_with fail
      go_ret
      exact ⟨ret_bool HM.out.symm, by rw [HP.out]; exact H.out, Kp.refl _ _⟩
    · have hq2 : 1152921504606846976 < q := by omega
      clear hq
      go_enter Try.func92, Try.ntmps92
      go_wp2_with fail
      go_ret
      exact ⟨ret_bool HM.out.symm, by rw [HP.out]; exact H.out, Kp.refl _ _⟩
  · have hq1 : ¬ q < -1152921504606846976 := by omega
    have hq2 : ¬ 1152921504606846976 < q := by omega
    cases hov : over t with
    | true =>
      have ho : off t q = true := by unfold off; rw [hov]; simp
      have HM : Hid (moved t q x fin = false) := by show _ = _; unfold moved; rw [put_off x fin ho]; exact decide_eq_false (by omega)
      have HP : Hid (put t q x fin = t) := put_off x fin ho
      rw [hov] at HO
      clear h ok ho hq hov
      go_enter Try.func92, Try.ntmps92
      go_wp2_with fail
      refine HO.out.mono ?_
      rintro e w1 ⟨rfl, hm⟩
      have H1 : Hid (OT b t w1) := by obtain ⟨m, rfl⟩ := hm; exact H.out
      have K1 : Hid (Kp [b] w w1) := by obtain ⟨m, rfl⟩ := hm; exact (Kp.refl _ _).drewN _
      clear HO H hm
      go_wp2_with fail
      go_ret
      exact ⟨ret_bool HM.out.symm, by rw [HP.out]; exact H1.out, K1.out⟩
    | false =>
      have ho : off t q = false := by unfold off; rw [hov, decide_eq_false hq]; rfl
      have HT : Hid (∀ W, OT b t W → Calls Try.prog 99 #[.pointer (some ⟨b, 0, none⟩), .int .i64 q, .string x] W fun e w' => e = .returned (.tuple #[]) ∧ OM b (cput t q x) t.f t.n t.n (rput t q x) t.e w' ∧ Kp [b] W w') := fun W h => take_any h ok hov hf q (by omega) (by omega) x hx
      have hr := rput_le ok q x
      have hfn := ok.fn
      have hnw := ok.nw
      have hee := ok.ee
      have HEn : Hid (∀ W, OM b (cput t q x) t.f t.n t.n (rput t q x) t.e W → Calls Try.prog 100 #[.pointer (some ⟨b, 0, none⟩), .int .i64 (q + (x.size : Int))] W fun e w' => e = .returned (.tuple #[]) ∧ OM b (cput t q x) t.f t.n t.n (rput t q x) (eput t q x true) w' ∧ Kp [b] W w') := fun W h => by
        rw [eput_true]; exact end_any h (q + (x.size : Int)) hf hnw (by omega) hr
      have HMv : Hid (∀ W, OM b (cput t q x) t.f t.n t.n (rput t q x) (eput t q x fin) W → Calls Try.prog 101 #[.pointer (some ⟨b, 0, none⟩)] W fun e w' => e = .returned (.bool (moved t q x fin)) ∧ OT b (put t q x fin) w' ∧ Kp [b] W w') := fun W h => by
        refine (move_any h ok.f1 hf hfn hnw (fun p hp => (ok.nx0 q x p hp).2) (nput t q x) (nput_ge t q x) (nput_all t q x) (ok.nput_none q x) (nxt (put t q x fin)) (nxt_put ok x fin ho) (moved t q x fin) (by unfold moved; rw [not_over_nxt hov])).mono ?_
        rintro e w' ⟨h1, h2, h3⟩
        refine ⟨h1, ?_, h3⟩
        unfold OT
        have e1 := put_on x fin ho
        have e2 : ∀ s : St, s = ⟨cput t q x, t.f, nput t q x, rput t q x, eput t q x fin⟩ → OM b (cput t q x) t.f (nput t q x) (nxt s) (rput t q x) (eput t q x fin) w' → OM b s.c s.f s.n (nxt s) s.r s.e w' := fun s hs h => by subst hs; exact h
        exact e2 _ e1 h2
      have HX : x.size ≤ 1152921504606846976 := hx
      rw [hov] at HO
      clear h ok ho hq hov hr hfn hnw hee
      cases fin with
      | true =>
        go_enter Try.func92, Try.ntmps92
        go_wp2_with fail
        refine HO.out.mono ?_
        rintro e w1 ⟨rfl, hm⟩
        have H1 : OT b t w1 := by obtain ⟨m, rfl⟩ := hm; exact H.out
        have K1 : Hid (Kp [b] w w1) := by obtain ⟨m, rfl⟩ := hm; exact (Kp.refl _ _).drewN _
        clear HO H hm
        go_wp2_with fail
        refine (HT.out _ H1).mono ?_
        rintro e w2 ⟨rfl, h2, hk2⟩
        have K2 : Hid (Kp [b] w w2) := K1.out.trans hk2 (by simp)
        clear HT H1 K1 hk2
        go_wp2_with fail
        refine (HEn.out _ h2).mono ?_
        rintro e w3 ⟨rfl, h3, hk3⟩
        have K3 : Hid (Kp [b] w w3) := K2.out.trans hk3 (by simp)
        clear HEn h2 K2 hk3
        go_wp2_with fail
        refine (HMv.out _ h3).mono ?_
        rintro e w4 ⟨rfl, h4, hk4⟩
        have K4 : Hid (Kp [b] w w4) := K3.out.trans hk4 (by simp)
        have H4 := Lib.hid h4
        clear HMv h3 K3 hk4 h4
        go_wp2_with fail
        go_ret
        exact ⟨rfl, H4.out, K4.out⟩
      | false =>
        rw [eput_false] at HMv
        go_enter Try.func92, Try.ntmps92
        go_wp2_with fail
        refine HO.out.mono ?_
        rintro e w1 ⟨rfl, hm⟩
        have H1 : OT b t w1 := by obtain ⟨m, rfl⟩ := hm; exact H.out
        have K1 : Hid (Kp [b] w w1) := by obtain ⟨m, rfl⟩ := hm; exact (Kp.refl _ _).drewN _
        clear HO H hm
        go_wp2_with fail
        refine (HT.out _ H1).mono ?_
        rintro e w2 ⟨rfl, h2, hk2⟩
        have K2 : Hid (Kp [b] w w2) := K1.out.trans hk2 (by simp)
        clear HT H1 K1 hk2
        go_wp2_with fail
        refine (HMv.out _ h2).mono ?_
        rintro e w4 ⟨rfl, h4, hk4⟩
        have K4 : Hid (Kp [b] w w4) := K2.out.trans hk4 (by simp)
        have H4 := Lib.hid h4
        clear HMv h2 K2 hk4 h4
        go_wp2_with fail
        go_ret
        exact ⟨rfl, H4.out, K4.out⟩
end

/-! Rd -/

theorem str_list (c : Nat → Option UInt8) (a k : Nat) : (str c a k).data.toList = (List.range k).map fun i => (c (a + i)).getD 0 := by simp [str]
theorem ext_list {a b : ByteArray} (h : a.data.toList = b.data.toList) : a = b := by
  cases a; cases b; congr 1; exact Array.toList_inj.1 h
theorem str_add (c : Nat → Option UInt8) (a k l : Nat) : str c a k ++ str c (a + k) l = str c a (k + l) := by
  apply ext_list
  rw [ByteArray.data_append, Array.toList_append, str_list, str_list, str_list, List.range_add, List.map_append, List.map_map]
  congr 1
  apply List.map_congr_left
  intro i _
  simp [Nat.add_assoc]
theorem wpList_slice_lh {ops : Array Oper} {rest : List Oper} {op : Oper} {a : Act} {w : World} {Q : Exit → Act → World → Prop} (hgd : op.guard = none) (x y z : Operand) (ho : op.op = .slice 120 x (some y) (some z) none)
    (b l h : Nat) (yl zh : Int) (hx : a.eval x = .pointer (some ⟨b, 0, none⟩)) (hy : a.eval y = .int .i64 yl) (hz : a.eval z = .int .i64 zh) (el : yl = (l : Int)) (eh : zh = (h : Int)) (hl : l ≤ h) (hh : h ≤ 2048) (hl2 : l < 2048)
    (hK : wpList Try.prog ops Q rest (a.put op.dst (.slice (some ⟨b, l, none⟩) (h - l) (2048 - l))) w) : wpList Try.prog ops Q (op :: rest) a w :=
  wpList_plain hgd fun K hK' => by
    have hs : (sizeOf 5).run Try.prog w = .ok 1 w := by kernel_rfl
    have ha : Try.prog.arrayLen 120 = 2048 := by kernel_rfl
    have he : Try.prog.elem 120 = 5 := by kernel_rfl
    have e := run_sliceAt_array_lh (P := Try.prog) w 120 ⟨b, 0, none⟩ (by rw [ha, he]; exact Try.underlying120) .i64 .i64 yl zh (by omega) (by omega) (by rw [ha]; omega)
    rw [he, hs, ha] at e
    have e1 : yl.toNat = l := by omega
    have e2 : zh.toNat = h := by omega
    simp only [Result.andThen, slicedAt, e1, e2, Nat.mul_one] at e
    rw [if_neg (by omega)] at e
    have e3 : (⟨b, 0, none⟩ : Addr).add l = ⟨b, l, none⟩ := by simp [Addr.add]; intro h0; exact h0.symm
    rw [e3] at e
    unfold Oper.wp execOp
    simp only [ho, hx, hy, hz, Option.map_some, Option.map_none, Sem.run_bind, Sem.run_pure, Result.andThen_ok, e]
    exact hK' _ _ hK
theorem wpList_slice_h {ops : Array Oper} {rest : List Oper} {op : Oper} {a : Act} {w : World} {Q : Exit → Act → World → Prop} (hgd : op.guard = none) (x z : Operand) (ho : op.op = .slice 120 x none (some z) none)
    (b h : Nat) (zh : Int) (hx : a.eval x = .pointer (some ⟨b, 0, none⟩)) (hz : a.eval z = .int .i64 zh) (eh : zh = (h : Int)) (hh : h ≤ 2048)
    (hK : wpList Try.prog ops Q rest (a.put op.dst (.slice (some ⟨b, 0, none⟩) h 2048)) w) : wpList Try.prog ops Q (op :: rest) a w :=
  wpList_plain hgd fun K hK' => by
    have hs : (sizeOf 5).run Try.prog w = .ok 1 w := by kernel_rfl
    have ha : Try.prog.arrayLen 120 = 2048 := by kernel_rfl
    have he : Try.prog.elem 120 = 5 := by kernel_rfl
    have e := run_sliceAt_array_h (P := Try.prog) w 120 ⟨b, 0, none⟩ (by rw [ha, he]; exact Try.underlying120) .i64 zh (by omega) (by rw [ha]; omega)
    rw [he, hs, ha] at e
    have e2 : zh.toNat = h := by omega
    simp only [Result.andThen, slicedAt, e2, Nat.mul_one, Nat.sub_zero] at e
    rw [if_neg (by omega)] at e
    have e3 : (⟨b, 0, none⟩ : Addr).add 0 = ⟨b, 0, none⟩ := by simp [Addr.add]
    rw [e3] at e
    unfold Oper.wp execOp
    simp only [ho, hx, hz, Option.map_some, Option.map_none, Sem.run_bind, Sem.run_pure, Result.andThen_ok, e]
    exact hK' _ _ hK
section
variable {c : Nat → Option UInt8} {b f n x r g : Nat} {W : World}
/-- A stretch of the ring as a text. -/
theorem OM.text (h : OM b c f n x r g W) (p l k cap : Nat) (hp : f ≤ p) (hk : p + k ≤ n) (hn : n ≤ f + 2048) (hl : 0 < k → p % 2048 = l) (hlk : l + k ≤ 2048) (hs : ∀ p, f ≤ p → p < n → (c p).isSome = true) :
    (convert 95 9 (.slice (some ⟨b, l, none⟩) k cap)).run Try.prog W = .ok (.string (str c p k)) W := by
  obtain ⟨q, hq, kk⟩ := h
  have e := run_convert_bytes_back (P := Try.prog) W 95 9 5 ⟨b, l, none⟩ cap ((List.range k).map fun i => (c (p + i)).getD 0) Try.underlying95 Try.underlying5 Try.underlying9 (fun j hj => by
    have hj : j < k := by simpa using hj
    rw [Addr.add_mid, hq.cBytes _ (by omega), show l + j = (p + j) % 2048 from by have := hl (by omega); omega, kk.ring.byte (by omega) (by omega) (hs _ (by omega) (by omega))]
    simp)
  have el : ((List.range k).map fun i => (c (p + i)).getD 0).length = k := by simp
  rw [el] at e
  exact e
theorem wpList_text {ops : Array Oper} {rest : List Oper} {op : Oper} {a : Act} {w : World} {Q : Exit → Act → World → Prop} (hgd : op.guard = none) (x : Operand) (ho : op.op = .convert 95 9 x) (v : Value) (s : ByteArray) (hx : a.eval x = v)
    (hr : (convert 95 9 v).run Try.prog w = .ok (.string s) w) (hK : wpList Try.prog ops Q rest (a.put op.dst (.string s)) w) : wpList Try.prog ops Q (op :: rest) a w :=
  wpList_plain hgd fun K hK' => by
    unfold Oper.wp execOp
    simp only [ho, hx, Sem.run_bind, Sem.run_pure, Result.andThen_ok, hr]
    exact hK' _ _ hK
theorem OM.setFirst (h : OM b c f n x r g W) (k : Nat) (hk : f + k ≤ n) (hn : n ≤ f + 2048) (hc : ∀ p, (c p).isSome = true → p < f + 2048) (y : Int) (hy : y = ((f + k : Nat) : Int)) : OM b c (f + k) n x r g (W.setCell ⟨b, 4096, none⟩ (.int .i64 y)) := by
  obtain ⟨q, hq, kk⟩ := h
  exact ⟨_, hq.setFirst y, kk.ring.read k hk hn hc y, hy, kk.next, kk.reach, kk.fin⟩
end
section
variable {b : Nat} {t : St} {w : World}
end
end Go.Proofs.Ytnhcjefbiihfjaa.Iq
