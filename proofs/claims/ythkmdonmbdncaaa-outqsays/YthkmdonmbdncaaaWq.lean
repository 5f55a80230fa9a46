/-
  Contract of Write (package outq).
-/
import Derived.Test.YthkmdonmbdncaaaGt
namespace Go.Proofs.Ythkmdonmbdncaaa
open Go.RowKit
set_option linter.unusedVariables false
set_option linter.unusedSimpArgs false

/-- For how many bytes there is room. -/
def rm (K : ByteArray) (sh : Bool) : Nat := if sh = true then 0 else 2048 - K.size
theorem rm_le (K : ByteArray) (sh : Bool) : rm K sh ≤ 2048 := by unfold rm; split <;> omega
set_option maxHeartbeats 1000000 in
theorem write_any {B b : Nat} {v : Value} {K : ByteArray} {l : Int} {sh : Bool} {u c s : Int} {w : World} (t : ByteArray) (h : QR B b v K l sh u c s w) (hK : K.size ≤ 2048) (l0 : 0 ≤ l) (l1 : l ≤ 4503599627370496) (ht : t.size ≤ maxLen) (n : Nat) (hn : n = min t.size (rm K sh)) :
    Calls Try.prog 8 #[.pointer (some ⟨b, 0, none⟩), .string t] w fun e w' => e = .returned (.int .i64 (n : Int)) ∧ (∃ v', QR B b v' (K ++ t.extract 0 n) (l + n) sh u c s w') ∧ Kp (b :: rw' v) w w' := by
  obtain ⟨i0, hi, hz0, hz1, hz2⟩ := info_parts info5
  obtain ⟨o, cap, rfl⟩ := h.shape
  unfold maxLen at ht
  have hr := rm_le K sh
  have HR : Hid (∀ w', QR B b (.slice o K.size cap) K l sh u c s w' → Calls Try.prog 23 #[.pointer (some ⟨b, 0, none⟩)] w' fun e w'' => e = .returned (.int .i64 (rm K sh : Int)) ∧ w'' = w') := fun w' h' => room_any h' hK _ (by unfold rm; cases sh <;> simp; omega)
  have hn0 : n ≤ t.size := by omega
  have hn1 : n ≤ rm K sh := by omega
  have hm : Hid (min (t.size : Int) (rm K sh : Int) = (n : Int)) := by show _ = _; omega
  have zx : (t.extract 0 n).size = n := by simp; omega
  have s1 : ∀ w', (Instr.slice 9 (.string t) none (some (.int .i64 (n : Int))) none).run Try.prog w' = .ok (.string (t.extract 0 n)) w' := fun w' => by
    have := run_slice_string_h (P := Try.prog) w' 9 t Try.underlying9 .i64 n (by omega) (by omega)
    simpa using this
  have HO : Hid (w.drew.ownsRow B 5 1 (.slice o K.size cap) K.size (Lib.strCells K)) := h.drew.own
  have HB : Hid (B ≤ w.drew.heap.size) := h.base
  have HX : Hid (∀ v' w', w'.ownsRow B 5 1 v' (K.size + (t.extract 0 n).size) (Lib.strCells K ++ Lib.strCells (t.extract 0 n)) → w.drew.grownBy w' (Value.slice o K.size cap).ownBlock →
      (∃ o' cap', v' = .slice o' (K.size + (t.extract 0 n).size) cap') ∧ w'.cell? ⟨b, 0, none⟩ = some (.slice o K.size cap) ∧ w'.frozen? ⟨b, 0, none⟩ = false ∧ QR B b v' (K ++ t.extract 0 n) l sh u c s (w'.setCell ⟨b, 0, none⟩ v') ∧ Kp (b :: rw' (.slice o K.size cap)) w (w'.setCell ⟨b, 0, none⟩ v')) := by
    intro v' w' h1 h2
    have hne := h.drew.row_ne h.drew.blk (by decide)
    have hb : w'.heap[b]? = w.drew.heap[b]? := h2.block b h.drew.lt (fun e => hne e.symm)
    refine ⟨?_, ?_, ?_, ?_, ?_⟩
    · rcases h1.2 with ⟨rfl, h0⟩ | ⟨g, cap', cur, rfl, _⟩
      · exact ⟨none, 0, by rw [h0]⟩
      · exact ⟨_, _, rfl⟩
    · rw [World.cell?_of_block (w := w.drew) hb]; exact h.drew.c0
    · rw [World.frozen?_of_block (w := w.drew) hb]; exact h.drew.free 0
    · exact h.drew.put h2 hne (by rw [ByteArray.size_append, strCells_append]; exact h1)
    · exact (((Kp.refl _ w).drew).grown h2 (fun k hk => by rw [List.mem_cons]; right; unfold rw'; rw [hk]; simp)).setCell (Or.inl (by simp)) _
  have c0 := h.c0
  have hhr := Lib.hid h
  have hT : (t.extract 0 n).size ≤ 2048 := by omega
  have HW : Hid (IntKind.i64.wrap (l + (n : Int)) = l + n) := by show _ = _; rw [IntKind.wrap_i64]; omega
  have hn2 : n ≤ 2048 := by omega
  clear hn h hn1 zx
  generalize rm K sh = r at *
  generalize t.extract 0 n = T at *
  go_enter Try.func8, Try.ntmps8
  go_wp2_with fail
  refine (HR.out _ hhr.out).mono ?_; rintro e w1 ⟨rfl, rfl⟩
  go_wp2_with fail
  rw [hm.out]
  clear hm HR ht
  go_region_law (refine step_append_own_string rfl (.tmp 15) (.tmp 18) 57 9 rfl B 5 i0 Try.underlying57 Try.underlying9 hi hz0 hz1 hz2 (.slice o K.size cap) K.size (Lib.strCells K) (by simp [Act.eval, Act.put]) HO.out T (by simp [Act.eval, Act.put]) (by unfold maxLen; omega) (by omega) HB.out ?_; intro v1 w2 hown hgrow; obtain ⟨⟨o1, cap1, rfl⟩, d0, f0, HQ0⟩ := HX.out _ _ hown hgrow)
  have HQ := Lib.hid HQ0
  clear HQ0 HX hown hgrow d0 f0
  generalize w2.setCell ⟨b, 0, none⟩ _ = w3 at *
  have c1 := HQ.out.1.c1
  have f1 := HQ.out.1.free 1
  go_wp2_with fail
  go_ret
  exact ⟨rfl, ⟨_, HQ.out.1.set1 _⟩, HQ.out.2.setCell (Or.inl (by simp)) _⟩
end Go.Proofs.Ythkmdonmbdncaaa
