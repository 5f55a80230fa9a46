/-
  Contract of the document's TcpRead where a text is too short or its words are not told in their form; numbers of two and of four bytes.
-/
import Derived.Test.YtggoipdmiajckaaRd
import Derived.Test.YtggoipdmiajckaaRC
import Derived.Deep.CutRange
namespace Go.Proofs.Ytggoipdmiajckaa
open Go.RowKit
set_option linter.unusedVariables false
set_option linter.unusedSimpArgs false

theorem two_list (s : ByteArray) (k : Nat) (h : k + 2 ≤ s.size) : (s.extract k (k + 2)).data.toList = [bt s k, bt s (k + 1)] := by
  have hl : (s.data.toList.take k).length = k := by rw [List.length_take]; simp; omega
  rw [extract_list, take_snoc s (k + 1) (by omega), take_snoc s k (by omega), bt_get s k (by omega), bt_get s (k + 1) (by omega)]
  simp [hl]
theorem numT (s : ByteArray) (k m : Nat) (hm : m = k + 2) (h : m ≤ s.size) (w : World) :
    Calls Try.prog 37 #[.string (s.extract k m)] w fun e w' => e = .returned (.int .u64 (tw s k : Int)) ∧ Below w.heap.size w w' := by
  subst hm
  have z : (s.extract k (k + 2)).size = 2 := by simp; omega
  refine (num_any 2 (s.extract k (k + 2)) w z (by omega)).mono ?_
  rintro e w1 ⟨rfl, kd, rfl⟩
  rw [two_list s k h, Pm.nv_two]
  exact ⟨rfl, below_drewN (Below.refl _ _) _⟩

theorem four_list (s : ByteArray) (k : Nat) (h : k + 4 ≤ s.size) : (s.extract k (k + 4)).data.toList = [bt s k, bt s (k + 1), bt s (k + 2), bt s (k + 3)] := by
  have hl : (s.data.toList.take k).length = k := by rw [List.length_take]; simp; omega
  rw [extract_list, take_snoc s (k + 3) (by omega), take_snoc s (k + 2) (by omega), take_snoc s (k + 1) (by omega), take_snoc s k (by omega), bt_get s k (by omega), bt_get s (k + 1) (by omega), bt_get s (k + 2) (by omega), bt_get s (k + 3) (by omega)]
  simp [hl]
theorem nv_four (a b c d : UInt8) : Pm.nv [a, b, c, d] = w16 a b * 65536 + w16 c d := by
  have h1 := a.toNat_lt
  have h2 := b.toNat_lt
  have h3 := c.toNat_lt
  have h4 := d.toNat_lt
  rw [show [a, b, c, d] = [a, b] ++ [c] ++ [d] from rfl, Pm.nv_snoc, Pm.nv_snoc, Pm.nv_two]
  unfold w16
  omega
theorem numF (s : ByteArray) (k m : Nat) (hm : m = k + 4) (h : m ≤ s.size) (w : World) :
    Calls Try.prog 37 #[.string (s.extract k m)] w fun e w' => e = .returned (.int .u64 (fo s k : Int)) ∧ Below w.heap.size w w' := by
  subst hm
  have z : (s.extract k (k + 4)).size = 4 := by simp; omega
  refine (num_any 4 (s.extract k (k + 4)) w z (by omega)).mono ?_
  rintro e w1 ⟨rfl, kd, rfl⟩
  rw [four_list s k h, nv_four]
  exact ⟨rfl, below_drewN (Below.refl _ _) _⟩

set_option maxRecDepth 100000 in
theorem rread_short (src dst : Nat) (s : ByteArray) (w : World) (h : s.size < 20) :
    Calls Try.prog 15 #[.int .u32 (src : Int), .int .u32 (dst : Int), .string s] w fun e w' => e = .returned (.tuple #[gv gz, .int .i64 3]) ∧ Below w.heap.size w w' := by
  have hlt : (s.size : Int) < 20 := by omega
  have b0 : Below w.heap.size w (w.alloc (.cells gzc 26)) := (Below.refl _ _).alloc (Nat.le_refl _) _
  have P0 : Hid (GB w.heap.size gz (w.alloc (.cells gzc 26))) := GB.new w gz
  go_enter Try.func15, Try.ntmps15
  go_wp2
  exact bodyPost_ret (v := .tuple #[gv gz, .int .i64 3]) (by simp [results, Try.results15, go_sem, gz]) rfl ⟨rfl, b0⟩

/-- What the byte that tells the words comes to. -/
theorem words_facts (A : Nat) (hA : A < 256) : ∃ T4 : Int, (A : Int).tdiv 16 = T4 ∧ (A : Int) / 16 = T4 ∧ 0 ≤ T4 ∧ T4 ≤ 100 ∧ wrap64 T4 = T4 ∧ IntKind.i64.wrap T4 = T4 ∧ IntKind.i64.wrap (T4 * 4) = ((A / 16 * 4 : Nat) : Int) ∧ T4 * 4 = ((A / 16 * 4 : Nat) : Int) :=
  ⟨(A : Int) / 16, Int.tdiv_eq_ediv_of_nonneg (by omega), rfl, by omega, by omega, by unfold wrap64; omega, by rw [IntKind.wrap_i64]; omega, by rw [IntKind.wrap_i64]; omega, by omega⟩

set_option maxRecDepth 100000 in
set_option maxHeartbeats 1000000 in
theorem rread_words (src dst : Nat) (s : ByteArray) (w : World) (h : 20 ≤ s.size) (hb : bo s < 20 ∨ (bt s 12).toNat % 16 ≠ 0) :
    Calls Try.prog 15 #[.int .u32 (src : Int), .int .u32 (dst : Int), .string s] w fun e w' => e = .returned (.tuple #[gv gz, .int .i64 4]) ∧ Below w.heap.size w w' := by
  have hge : ¬ (s.size : Int) < 20 := by omega
  have i12 : ∀ w', (Instr.index 9 (.string s) (.int .i64 12)).run Try.prog w' = .ok (.int .u8 ((bt s 12).toNat : Int)) w' := fun w' => ix_run s 12 12 rfl (by omega) w'
  obtain ⟨T4, e1, e2, e3, e4, e5, e6, e7, e8⟩ := words_facts (bt s 12).toNat (bt s 12).toNat_lt
  have b0 : Below w.heap.size w (w.alloc (.cells gzc 26)) := (Below.refl _ _).alloc (Nat.le_refl _) _
  have P0 : Hid (GB w.heap.size gz (w.alloc (.cells gzc 26))) := GB.new w gz
  unfold bo at hb
  have hl := (bt s 12).toNat_lt
  have v0 : IntKind.i64.wrap ((bt s 12).toNat : Int) = ((bt s 12).toNat : Int) := by rw [IntKind.wrap_i64]; omega
  generalize (bt s 12).toNat = A at *
  by_cases c : A / 16 * 4 < 20
  · have d : decide (((A / 16 * 4 : Nat) : Int) < 20) = true := by simp; omega
    generalize A / 16 * 4 = T at *
    clear hb e8
    have d' : (T : Int) < 20 := by omega
    clear d
    go_enter Try.func15, Try.ntmps15
    go_wp2
    exact bodyPost_ret (v := .tuple #[gv gz, .int .i64 4]) (by simp [results, Try.results15, go_sem, gz]) rfl ⟨rfl, b0⟩
  · have d2 : A % 16 ≠ 0 := hb.resolve_left c
    have d : decide (((A / 16 * 4 : Nat) : Int) < 20) = false := by simp; omega
    have d3 : (0 : Int) < (A : Int) % 16 := by omega
    generalize A / 16 * 4 = T at *
    clear hb d2 e8
    go_enter Try.func15, Try.ntmps15
    go_wp2
    exact bodyPost_ret (v := .tuple #[gv gz, .int .i64 4]) (by simp [results, Try.results15, go_sem, gz]) rfl ⟨rfl, b0⟩

set_option maxRecDepth 100000 in
set_option maxHeartbeats 1000000 in
theorem rread_lack (src dst : Nat) (s : ByteArray) (w : World) (h : 20 ≤ s.size) (hb : 20 ≤ bo s) (hm : (bt s 12).toNat % 16 = 0) (hl3 : s.size < bo s) :
    Calls Try.prog 15 #[.int .u32 (src : Int), .int .u32 (dst : Int), .string s] w fun e w' => e = .returned (.tuple #[gv gz, .int .i64 3]) ∧ Below w.heap.size w w' := by
  have hge : ¬ (s.size : Int) < 20 := by omega
  have i12 : ∀ w', (Instr.index 9 (.string s) (.int .i64 12)).run Try.prog w' = .ok (.int .u8 ((bt s 12).toNat : Int)) w' := fun w' => ix_run s 12 12 rfl (by omega) w'
  obtain ⟨T4, e1, e2, e3, e4, e5, e6, e7, e8⟩ := words_facts (bt s 12).toNat (bt s 12).toNat_lt
  have b0 : Below w.heap.size w (w.alloc (.cells gzc 26)) := (Below.refl _ _).alloc (Nat.le_refl _) _
  unfold bo at hb hl3
  have hl := (bt s 12).toNat_lt
  have v0 : IntKind.i64.wrap ((bt s 12).toNat : Int) = ((bt s 12).toNat : Int) := by rw [IntKind.wrap_i64]; omega
  generalize (bt s 12).toNat = A at *
  have d : decide (((A / 16 * 4 : Nat) : Int) < 20) = false := by simp; omega
  have d3 : decide ((0 : Int) < (A : Int) % 16) = false := by simp; omega
  have d4 : (s.size : Int) < ((A / 16 * 4 : Nat) : Int) := by omega
  generalize A / 16 * 4 = T at *
  clear hb hm e8
  go_enter Try.func15, Try.ntmps15
  go_wp2
  exact bodyPost_ret (v := .tuple #[gv gz, .int .i64 3]) (by simp [results, Try.results15, go_sem, gz]) rfl ⟨rfl, b0⟩
end Go.Proofs.Ytggoipdmiajckaa
