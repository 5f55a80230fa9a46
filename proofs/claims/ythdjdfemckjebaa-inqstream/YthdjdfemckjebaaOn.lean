/-
  One queue in memory, and the steps that are handed in.
-/
import Derived.Test.YthdjdfemckjebaaRd
import Derived.Test.YthdjdfemckjebaaMt
import Derived.Test.YthdjdfemckjebaaOf
import Derived.Test.YthdjdfemckjebaaTx
import Derived.Deep.CutBlock
namespace Go.Proofs.Ythdjdfemckjebaa
open Go.RowKit
set_option linter.unusedVariables false
set_option linter.unusedSimpArgs false

/-- A queue, new since w. -/
structure Own (w W : World) (b : Nat) (t : St) : Prop where
  own : OT b t W
  ok : Ok t
  be : Below w.heap.size w W
  lo : w.heap.size ≤ b
section
variable {w W W' : World} {b : Nat} {t t' : St}
theorem Own.on (h : Own w W b t) (hb : Below W.heap.size W W') : Own w W' b t := ⟨h.own.keep hb, h.ok, h.be.trans (hb.mono h.be.size), h.lo⟩
theorem Own.drewN (h : Own w W b t) (n : Nat) : Own w (W.drewN n) b t := h.on (below_drewN W n)
theorem Own.drew (h : Own w W b t) : Own w W.drew b t := h.on ((Below.refl _ _).drew)
theorem Own.alloc (h : Own w W b t) (o : Obj) : Own w (W.alloc o) b t := h.on ((Below.refl _ _).alloc (Nat.le_refl _) _)
theorem Own.put (h : Own w W b t) (ht : OT b t' W') (ok : Ok t') (hk : Kp [b] W W') : Own w W' b t' := ⟨ht, ok, h.be.trans (hk.below h.be.size (by simpa using h.lo)), h.lo⟩
theorem OT.blk' (h : OT b t W) : ∃ a, W.heap[b]? = some (.cells a 56 (0, 0)) := by obtain ⟨q, ⟨a, ha, _⟩, _⟩ := h; exact ⟨a, ha⟩
theorem SB.ko {bx : Nat} {cs : List Value} (hs : SB bx cs W) (h : OT b t W) (hk : Kp [b] W W') : SB bx cs W' :=
  (hk.block _ hs.lt (by
    rw [List.mem_singleton]; rintro rfl
    obtain ⟨a, ha⟩ := h.blk'
    rw [hs] at ha
    injection ha with ha
    injection ha with _ ha
    exact absurd ha (by decide))).trans hs
theorem o_new (w : World) : Calls Try.prog 7 #[] w fun e w' => e = .returned (.pointer (some ⟨w.heap.size, 0, none⟩)) ∧ Own w w' w.heap.size st0 :=
  (new_any w).mono fun e w' h => ⟨h.1, h.2.1, st0_ok, h.2.2, Nat.le_refl _⟩
theorem o_put (h : Own w W b t) (hf : t.f ≤ 1152921504606846976) (q : Int) (q1 : -9223372036854775808 ≤ q) (q2 : q ≤ 9223372036854775807) (x : ByteArray) (hx : x.size ≤ 1152921504606846976) (fin : Bool) :
    Calls Try.prog 10 #[.pointer (some ⟨b, 0, none⟩), .int .i64 q, .string x, .bool fin] W fun e w' => e = .returned (.bool (moved t q x fin)) ∧ Own w w' b (Go.Proofs.Ythdjdfemckjebaa.put t q x fin) ∧ Kp [b] W w' :=
  (put_any h.own h.ok hf q q1 q2 x hx fin).mono fun e w' h' => ⟨h'.1, h.put h'.2.1 (h.ok.put q x fin) h'.2.2, h'.2.2⟩
theorem o_read (h : Own w W b t) (hf : t.f ≤ 1152921504606846976) (q : Int) (q1 : -9223372036854775808 ≤ q) (q2 : q ≤ 9223372036854775807) :
    Calls Try.prog 12 #[.pointer (some ⟨b, 0, none⟩), .int .i64 q] W fun e w' => e = .returned (.string (str t.c t.f (rk t q))) ∧ Own w w' b (rd t q) ∧ Kp [b] W w' :=
  (read_any h.own h.ok hf q q1 q2 _ rfl).mono fun e w' h' => ⟨h'.1, h.put h'.2.1 (h.ok.rd q) h'.2.2, h'.2.2⟩
theorem o_next (h : Own w W b t) : Calls Try.prog 14 #[.pointer (some ⟨b, 0, none⟩)] W fun e w' => e = .returned (.int .i64 (nxt t : Int)) ∧ w' = W := next_any h.own
theorem o_window (h : Own w W b t) (hf : t.f ≤ 1152921504606846976) : Calls Try.prog 16 #[.pointer (some ⟨b, 0, none⟩)] W fun e w' => e = .returned (.int .i64 (wnd t)) ∧ Own w w' b t :=
  (window_any h.own h.ok.lo hf).mono fun e w' h' => ⟨h'.1, by obtain ⟨n, e⟩ := h'.2; rw [e]; exact h.drewN n⟩
theorem o_ready (h : Own w W b t) (hf : t.f ≤ 1152921504606846976) : Calls Try.prog 18 #[.pointer (some ⟨b, 0, none⟩)] W fun e w' => e = .returned (.int .i64 (rdy t : Int)) ∧ Own w w' b t :=
  (ready_any h.own h.ok.lo hf).mono fun e w' h' => ⟨h'.1, by obtain ⟨n, e⟩ := h'.2; rw [e]; exact h.drewN n⟩
theorem o_over (h : Own w W b t) : Calls Try.prog 20 #[.pointer (some ⟨b, 0, none⟩)] W fun e w' => e = .returned (.bool (over t)) ∧ Own w w' b t :=
  (over_any h.own h.ok.lo).mono fun e w' h' => ⟨h'.1, by obtain ⟨n, e⟩ := h'.2; rw [e]; exact h.drewN n⟩
end
end Go.Proofs.Ythdjdfemckjebaa
