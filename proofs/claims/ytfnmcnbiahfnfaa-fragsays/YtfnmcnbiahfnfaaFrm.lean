/-
  What Split's pieces look like. Plain mathematics. And two laws of the walk: a guarded load, a store into the block that was made last.
-/
import Derived.Test.YtfnmcnbiahfnfaaSpl
namespace Go.Proofs.Ytfnmcnbiahfnfaa
open Go.RowKit
set_option linter.unusedVariables false
set_option linter.unusedSimpArgs false

/-- Split's list: n pieces of R bytes. -/
structure Frm (p : Pk) (mtu : Int) (R n : Nat) : Prop where
  lo : 8 ≤ R
  hi : R ≤ 1400
  by8 : R % 8 = 0
  list : spl p mtu = pks p R n
  pos : 0 < n
  le : n ≤ 4000
  inn : ∀ k, k < n → k = 0 ∨ k * R < p.body.size
  all : p.body.size ≤ n * R
  fit : ∀ k, k < n → min (k * R + R) p.body.size - k * R + 20 ≤ mtu.toNat
  mtu : 28 ≤ mtu ∧ mtu ≤ 1420
  more : p.more = false
  off : p.off = 0
  sz : p.body.size ≤ 4000
  bare : chk (bare p) = 0
  dont : n = 1 ∨ p.dont = false
theorem frm_of {p : Pk} {mtu : Int} (h : sperr p mtu = 0) : ∃ R n, Frm p mtu R n := by
  have h0 : sflt p mtu = 0 := by
    unfold sperr at h
    split at h
    · rename_i h1; exact absurd h h1
    · rename_i h1; simpa using h1
  obtain ⟨q1, q2, q3, q4, q5, q6⟩ := sflt_ok h0
  obtain ⟨r1, r2, r3, r4, r5⟩ := room_ok q1 q2
  by_cases hf : (p.body.size : Int) + 20 ≤ mtu
  · refine ⟨1400, 1, by omega, by omega, by omega, ?_, by omega, by omega, fun k hk => Or.inl (by omega), by omega, fun k hk => ?_, ⟨q1, q2⟩, q3, q4, q6, q5, Or.inl rfl⟩
    · unfold spl
      rw [if_neg (by simp [h]), if_pos hf]
      show [p] = [pk p 1400 0]
      rw [pk, Nat.zero_mul, Nat.zero_add, Nat.min_eq_right (by omega), pce_whole p q4 q3]
    · obtain rfl : k = 0 := by omega
      omega
  · have hd : p.dont = false := by
      cases hd : p.dont with
      | false => rfl
      | true => unfold sperr at h; rw [if_neg (by simp [h0]), if_neg hf, if_pos hd] at h; cases h
    have hT : ∀ k, k < cnt p.body.size (room mtu) ↔ k * room mtu < p.body.size := fun k => lt_cnt (by omega)
    refine ⟨room mtu, cnt p.body.size (room mtu), r1, r2, r3, ?_, ?_, Nat.le_trans (cnt_le _ _ (by omega)) q6, fun k hk => Or.inr ((hT k).1 hk), ?_, fun k hk => ?_, ⟨q1, q2⟩, q3, q4, q6, q5, Or.inr hd⟩
    · unfold spl
      rw [if_neg (by simp [h]), if_neg hf]
    · exact (hT 0).2 (by omega)
    · have h9 : ¬ (cnt p.body.size (room mtu) * room mtu < p.body.size) := fun hc => Nat.lt_irrefl _ ((hT _).2 hc)
      omega
    · have := Nat.min_le_left (k * room mtu + room mtu) p.body.size
      omega
theorem spl_bad {p : Pk} {mtu : Int} (h : sperr p mtu ≠ 0) : spl p mtu = [] := by unfold spl; rw [if_pos h]
theorem pks_get (p : Pk) (R n k : Nat) (h : k < n) : (pks p R n)[k]? = some (pk p R k) := by simp [pks, h]
theorem Frm.get {p : Pk} {mtu : Int} {R n : Nat} (F : Frm p mtu R n) {k : Nat} (h : k < n) : (spl p mtu)[k]? = some (pk p R k) := by rw [F.list]; exact pks_get p R n k h
theorem Frm.len {p : Pk} {mtu : Int} {R n : Nat} (F : Frm p mtu R n) : (spl p mtu).length = n := by rw [F.list]; exact pks_length p R n
/-- Where the k-th piece begins is where those ahead of it end. -/
def sta (p : Pk) (R k : Nat) : Nat := min (k * R) p.body.size
theorem Frm.sta_eq {p : Pk} {mtu : Int} {R n : Nat} (F : Frm p mtu R n) {k : Nat} (h : k < n) : sta p R k = k * R := by
  unfold sta
  rcases F.inn k h with rfl | h
  · simp
  · omega
theorem sta_succ (p : Pk) (R k : Nat) : sta p R (k + 1) = min (k * R + R) p.body.size := by unfold sta; rw [Nat.add_mul, Nat.one_mul]
theorem Frm.pkOff {p : Pk} {mtu : Int} {R n : Nat} (F : Frm p mtu R n) {k : Nat} (h : k < n) : 8 * (pk p R k).off = (sta p R k : Int) := by
  rw [F.sta_eq h]
  show 8 * ((k * R / 8 : Nat) : Int) = _
  have : k * R % 8 = 0 := by rw [Nat.mul_mod, F.by8]; simp
  omega
theorem Frm.pkMore {p : Pk} {mtu : Int} {R n : Nat} (F : Frm p mtu R n) {k : Nat} (h : k < n) : (pk p R k).more = decide (k + 1 < n) := by
  show decide (min (k * R + R) p.body.size < p.body.size) = _
  rw [decide_eq_decide]
  have e : (k + 1) * R = k * R + R := by rw [Nat.add_mul, Nat.one_mul]
  constructor
  · intro h1
    rcases Nat.lt_or_ge (k + 1) n with h2 | h2
    · exact h2
    · have := F.all
      have e2 : n = k + 1 := by omega
      rw [e2, e] at this
      omega
  · intro h1
    rcases F.inn (k + 1) h1 with h2 | h2 <;> omega
theorem Frm.pkSize {p : Pk} {mtu : Int} {R n : Nat} (F : Frm p mtu R n) {k : Nat} (h : k < n) : (pk p R k).body.size = sta p R (k + 1) - sta p R k ∧ sta p R k ≤ sta p R (k + 1) ∧ sta p R (k + 1) ≤ p.body.size := by
  have e1 := F.sta_eq h
  rw [sta_succ]
  have h3 : sta p R k ≤ p.body.size := by unfold sta; omega
  refine ⟨?_, by omega, by omega⟩
  show (p.body.extract (k * R) (min (k * R + R) p.body.size)).size = _
  rw [ByteArray.size_extract]
  omega
theorem Frm.pkFits {p : Pk} {mtu : Int} {R n : Nat} (F : Frm p mtu R n) {k : Nat} (h : k < n) : ((pk p R k).body.size : Int) + 20 ≤ mtu := by
  have h1 := F.pkSize h
  have h2 := F.fit k h
  rw [sta_succ, F.sta_eq h] at h1
  have := F.mtu
  omega
theorem extract_cat (s : ByteArray) (a b c : Nat) (h1 : a ≤ b) (h2 : b ≤ c) : s.extract a b ++ s.extract b c = s.extract a c := by
  apply ByteArray.ext
  simp [h1, h2]
theorem Frm.pkCat {p : Pk} {mtu : Int} {R n : Nat} (F : Frm p mtu R n) {k : Nat} (h : k < n) : p.body.extract 0 (sta p R k) ++ (pk p R k).body = p.body.extract 0 (sta p R (k + 1)) := by
  have h1 := F.pkSize h
  have : (pk p R k).body = p.body.extract (sta p R k) (sta p R (k + 1)) := by rw [F.sta_eq h, sta_succ]; rfl
  rw [this, extract_cat _ _ _ _ (by omega) (by omega)]
theorem Frm.last {p : Pk} {mtu : Int} {R n : Nat} (F : Frm p mtu R n) : sta p R n = p.body.size := by unfold sta; have := F.all; omega
theorem pkBack (p : Pk) (R k : Nat) (h1 : p.off = 0) (h2 : p.more = false) : ({ pk p R k with body := p.body, off := 0, more := false } : Pk) = p := by
  obtain ⟨src, dst, proto, ttl, id, dont, more, off, body⟩ := p
  simp only at h1 h2
  subst h1 h2
  rfl

/-- A whole struct goes into the block that was made last. -/
theorem wpList_store_last {P : Program} {ops : Array Oper} {rest : List Oper} {op : Oper} {a : Act} {w : World} {Q : Exit → Act → World → Prop} (hgd : op.guard = none) (ty : TypeId) (x y : Operand) (ho : op.op = .store ty x y)
    (w0 : World) (c c' : Array Value) (hw : w = w0.alloc (.cells c ty)) (hx : a.eval x = .pointer (some ⟨w0.heap.size, 0, none⟩)) (hy : a.eval y = .agg c') (hi : (P.info? ty).map (·.size) = some c'.size) (hs : c.size = c'.size) (h1 : c'.all (·.oneCell') = true)
    (h : wpList P ops Q rest (a.put op.dst undef) (w0.alloc (.cells c' ty))) : wpList P ops Q (op :: rest) a w :=
  wpList_plain hgd fun K hK => by
    unfold Oper.wp execOp
    simp only [ho, hx, hy, Sem.run_bind]
    rw [hw, run_storeAt_new w0 ty c c' hi hs h1]
    exact hK _ _ h
/-- A guarded load that is carried out. -/
theorem wpList_load_guard {P : Program} {ops : Array Oper} {rest : List Oper} {op : Oper} {a : Act} {w : World} {Q : Exit → Act → World → Prop} (hw : Region.wanted op (yielded ops a.tmps) = true) (ty : TypeId) (x : Operand) (ho : op.op = .load ty x)
    (b o : Nat) (hx : a.eval x = .pointer (some ⟨b, o, none⟩)) (cs : List Value) (d : TypeDesc) (hc : w.rangeAt b o cs)
    (hu : P.underlying ty = some d) (hd : d.isRow = true) (hi : (P.info? ty).map (·.size) = some cs.length)
    (h : wpList P ops Q rest (a.put op.dst (.agg cs.toArray)) w) : wpList P ops Q (op :: rest) a w :=
  wpList_step fun K hK => by
    rw [if_pos hw]
    exact wp_load_mid ty x ho b o hx cs d hc hu hd hi (hK _ _ h)
end Go.Proofs.Ytfnmcnbiahfnfaa
