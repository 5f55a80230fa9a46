/-
  The document's own queue in memory: a map of what came, two numbers.
-/
import Derived.Test.YthdjdfemckjebaaQb
import Derived.Maps.RangeWalk
import Derived.Maps.OwnSet
import Derived.Maps.OwnOps
namespace Go.Proofs.Ythdjdfemckjebaa
open Go.RowKit Go.Maps
set_option linter.unusedVariables false
set_option linter.unusedSimpArgs false

theorem law3 : Keyed Try.prog 3 := int_keyed Try.underlying3
theorem zero5 (w : World) : (zeroValue 5).run Try.prog w = .ok (.int .u8 0) w := by kernel_rfl
abbrev kl (p : Int) : Lit := .int .i64 p
theorem kl_wf {p : Int} (h1 : -9223372036854775808 ≤ p) (h2 : p ≤ 9223372036854775807) : (Lit.int .i64 p).wf = true := WalkArith.wf_i64 (by omega)
theorem kl_key {p : Int} (h1 : -9223372036854775808 ≤ p) (h2 : p ≤ 9223372036854775807) : keyOf Try.prog 3 (.int .i64 p) = some (kl p) := keyOf_int_mk Try.underlying3 (kl_wf h1 h2)
theorem u8_wf (x : UInt8) : (Lit.int .u8 (x.toNat : Int)).wf = true := by
  have := x.toNat_lt
  exact WalkArith.wf_u8 (by omega)
/-- The map's datum says c. -/
structure DA (D : DataW Unit) (c : Nat → Option UInt8) : Prop where
  at_ : ∀ (p : Nat) x, c p = some x → ∀ z, D.atKey (kl p) z = .lit (.int .u8 (x.toNat : Int))
  has : ∀ p : Nat, Maps.has D (kl p) = (c p).isSome
  neg : ∀ p : Int, p < 0 → Maps.has D (kl p) = false
/-- The document's queue: its block, its map, what came, the first place that is not read, FIN; m bounds how many came. -/
structure UM (b mb : Nat) (c : Nat → Option UInt8) (f g m : Nat) (W : World) : Prop where
  blk : W.heap[b]? = some (.cells #[.map (some mb), .int .i64 (f : Int), .int .i64 (g : Int)] 59 (0, 0))
  own : ∃ D, W.ownsMap Try.prog 3 (plainElem Try.prog 5) mb m D ∧ DA D c
section
variable {b mb : Nat} {c : Nat → Option UInt8} {f g m : Nat} {W W' : World}
theorem own_on {D : DataW Unit} {n k : Nat} (h : W.ownsMap Try.prog 3 (plainElem Try.prog 5) k n D) (he : W'.heap[k]? = W.heap[k]?) : W'.ownsMap Try.prog 3 (plainElem Try.prog 5) k n D := by
  obtain ⟨es, cl, h1, h2⟩ := h
  exact ⟨es, cl, he.trans h1, h2⟩
theorem UM.lt (h : UM b mb c f g m W) : b < W.heap.size := lt_of_heap h.blk
theorem UM.mlt (h : UM b mb c f g m W) : mb < W.heap.size := by obtain ⟨D, ho, _⟩ := h.own; exact ho.lt
theorem UM.ne (h : UM b mb c f g m W) : b ≠ mb := fun e => by
  obtain ⟨D, ⟨es, cl, hm, _⟩, _⟩ := h.own
  have := h.blk
  rw [e, hm] at this; cases this
theorem UM.keep2 (h : UM b mb c f g m W) (h1 : W'.heap[b]? = W.heap[b]?) (h2 : W'.heap[mb]? = W.heap[mb]?) : UM b mb c f g m W' := by
  obtain ⟨D, ho, hd⟩ := h.own
  exact ⟨h1.trans h.blk, D, own_on ho h2, hd⟩
theorem UM.keep (h : UM b mb c f g m W) (hb : Below W.heap.size W W') : UM b mb c f g m W' := h.keep2 (hb.block _ h.lt) (hb.block _ h.mlt)
theorem UM.kp {bs : List Nat} (h : UM b mb c f g m W) (hk : Kp bs W W') (h1 : b ∉ bs) (h2 : mb ∉ bs) : UM b mb c f g m W' := h.keep2 (hk.block _ h.lt h1) (hk.block _ h.mlt h2)
theorem UM.drew (h : UM b mb c f g m W) : UM b mb c f g m W.drew := h.keep2 rfl rfl
theorem UM.drewN (h : UM b mb c f g m W) (n : Nat) : UM b mb c f g m (W.drewN n) := h.keep2 rfl rfl
theorem UM.alloc (h : UM b mb c f g m W) (o : Obj) : UM b mb c f g m (W.alloc o) := h.keep ((Below.refl _ _).alloc (Nat.le_refl _) _)
theorem UM.c0 (h : UM b mb c f g m W) : W.cell? ⟨b, 0, none⟩ = some (.map (some mb)) := Joins.cell_of_block h.blk 0
theorem UM.c1 (h : UM b mb c f g m W) : W.cell? ⟨b, 1, none⟩ = some (.int .i64 (f : Int)) := Joins.cell_of_block h.blk 1
theorem UM.c2 (h : UM b mb c f g m W) : W.cell? ⟨b, 2, none⟩ = some (.int .i64 (g : Int)) := Joins.cell_of_block h.blk 2
theorem UM.free (h : UM b mb c f g m W) (i : Nat) : W.frozen? ⟨b, i, none⟩ = false := Joins.unfrozen_of_block h.blk i
theorem UM.mono (h : UM b mb c f g m W) {m' : Nat} (hm : m ≤ m') : UM b mb c f g m' W := by
  obtain ⟨D, ho, hd⟩ := h.own
  exact ⟨h.blk, D, ho.mono hm, hd⟩
theorem UM.own_set (h : UM b mb c f g m W) (i : Nat) (v : Value) : ∃ D, (W.setCell ⟨b, i, none⟩ v).ownsMap Try.prog 3 (plainElem Try.prog 5) mb m D ∧ DA D c := by
  obtain ⟨D, ho, hd⟩ := h.own
  exact ⟨D, own_on ho (Below.heap_setCell _ _ _ _ (fun e => h.ne e.symm)), hd⟩
theorem UM.set1 (h : UM b mb c f g m W) (y : Nat) : UM b mb c y g m (W.setCell ⟨b, 1, none⟩ (.int .i64 (y : Int))) := ⟨Joins.block_setCell h.blk _, h.own_set 1 _⟩
theorem UM.set2 (h : UM b mb c f g m W) (y : Nat) : UM b mb c f y m (W.setCell ⟨b, 2, none⟩ (.int .i64 (y : Int))) := ⟨Joins.block_setCell h.blk _, h.own_set 2 _⟩
/-- 'v, ok := came[p]'. -/
theorem UM.look (h : UM b mb c f g m W) (p : Nat) (hp : p ≤ 9223372036854775807) : (Instr.lookup 57 (.map (some mb)) (.int .i64 (p : Int)) true).run Try.prog W = .ok (.tuple #[.int .u8 (((c p).getD 0).toNat : Int), .bool (c p).isSome]) W := by
  obtain ⟨D, ho, hd⟩ := h.own
  obtain ⟨v, ps, h1, h2⟩ := ho.look_ok law3 Try.underlying57 (zero5 W) (plainElem_int Try.underlying5 (by decide)) (kl_key (p := (p : Int)) (by omega) (by omega))
  rw [h1, hd.has p]
  obtain ⟨y, rfl, h3, _⟩ := plainElem_int_inv Try.underlying5 h2
  have h3 := congrArg Prod.fst h3
  simp only at h3
  cases hc : c p with
  | some x =>
    rw [hd.at_ p x hc] at h3
    injection h3 with h3
    injection h3 with _ h3
    rw [← h3]; rfl
  | none =>
    have := hd.has p
    rw [hc] at this
    rw [Maps.atKey_of_not_has this] at h3
    injection h3 with h3
    injection h3 with _ h3
    rw [← h3]; rfl
theorem UM.lookNeg (h : UM b mb c f g m W) (p : Int) (h0 : p < 0) (hp : -9223372036854775808 ≤ p) : (Instr.lookup 57 (.map (some mb)) (.int .i64 p) true).run Try.prog W = .ok (.tuple #[.int .u8 0, .bool false]) W := by
  obtain ⟨D, ho, hd⟩ := h.own
  obtain ⟨v, ps, h1, h2⟩ := ho.look_ok law3 Try.underlying57 (zero5 W) (plainElem_int Try.underlying5 (by decide)) (kl_key (p := p) hp (by omega))
  rw [h1, hd.neg p h0]
  obtain ⟨y, rfl, h3, _⟩ := plainElem_int_inv Try.underlying5 h2
  have h3 := congrArg Prod.fst h3
  simp only at h3
  rw [Maps.atKey_of_not_has (hd.neg p h0)] at h3
  injection h3 with h3
  injection h3 with _ h3
  rw [← h3]
/-- 'came[p]'. -/
theorem UM.get (h : UM b mb c f g m W) (p : Nat) (hp : p ≤ 9223372036854775807) : (Instr.lookup 57 (.map (some mb)) (.int .i64 (p : Int)) false).run Try.prog W = .ok (.int .u8 (((c p).getD 0).toNat : Int)) W := by
  obtain ⟨D, ho, hd⟩ := h.own
  obtain ⟨y, h1, h3, _⟩ := ho.lookup_int law3 Try.underlying57 Try.underlying5 (zero5 W) (kl_key (p := (p : Int)) (by omega) (by omega))
  rw [h1]
  cases hc : c p with
  | some x =>
    rw [hd.at_ p x hc] at h3
    injection h3 with h3
    injection h3 with _ h3
    rw [← h3]; rfl
  | none =>
    have := hd.has p
    rw [hc] at this
    rw [Maps.atKey_of_not_has this] at h3
    injection h3 with h3
    injection h3 with _ h3
    rw [← h3]; rfl
theorem kp_grown {W W' : World} {b : Nat} (h : W.grownBy W' (some b)) : Kp [b] W W' :=
  ⟨h.os, h.tape, h.output, h.size, fun k hk hn => h.block k hk (fun e => hn (by simp [Option.some.inj e]))⟩
/-- 'came[p] = x'. -/
theorem UM.store (h : UM b mb c f g m W) (p : Nat) (hp : p ≤ 9223372036854775807) (x : UInt8) (hm : m < 9223372036854775807) {c' : Nat → Option UInt8} (hc : c' p = some x) (ho' : ∀ k, k ≠ p → c' k = c k) :
    ∃ W', (Instr.mapUpdate 57 (.map (some mb)) (.int .i64 (p : Int)) (.int .u8 (x.toNat : Int))).run Try.prog W = .ok () W' ∧ UM b mb c' f g (m + 1) W' ∧ Kp [mb] W W' := by
  obtain ⟨D, ho, hd⟩ := h.own
  obtain ⟨W', hr, hw, hg⟩ := ho.update law3 Try.underlying57 (by unfold maxLen; omega) (kl_key (p := (p : Int)) (by omega) (by omega)) (plainElem_int Try.underlying5 (u8_wf x))
  have hk := kp_grown hg
  have hkey : WideAt.IsKeyLit (kl (p : Int)) := law3.key (kl_key (by omega) (by omega))
  have hne : ∀ k : Int, k ≠ (p : Int) → kl k ≠ kl (p : Int) := fun k hk e => by injection e with _ e; exact hk e
  refine ⟨W', hr, ⟨(hk.block _ h.lt (by simpa using h.ne)).trans h.blk, _, hw, ⟨fun k y hy z => ?_, fun k => ?_, fun k h0 => ?_⟩⟩, hk⟩
  · by_cases e : k = p
    · subst e
      rw [hc] at hy
      rw [Option.some.inj hy] at *
      exact Maps.atKey_put_same ho.isMap hkey _ z
    · rw [Maps.atKey_put_other (hne _ (by omega))]
      rw [ho' k e] at hy
      exact hd.at_ k y hy z
  · by_cases e : k = p
    · subst e
      rw [hc, Maps.has_put_same ho.isMap hkey]; rfl
    · rw [Maps.has_put_other (hne _ (by omega)), ho' k e]
      exact hd.has k
  · rw [Maps.has_put_other (hne _ (by omega))]
    exact hd.neg k h0
end
end Go.Proofs.Ythdjdfemckjebaa
