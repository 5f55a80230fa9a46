/-
  The head of a packet as twenty bytes; contracts of its check, two, four.
-/
import Derived.Test.YtlkodoiiigndoaaPk
import Derived.Laws.Tables
import Derived.Lib.SmallJoins
import Derived.Lib.BufferWrite
import Derived.Laws.CopyOwn
import Derived.Deep.MidRow
namespace Go.Proofs.Ytlkodoiiigndoaa
open Go.RowKit
set_option linter.unusedVariables false
set_option linter.unusedSimpArgs false

/-- The cells of a head. -/
abbrev hc (B : Nat → UInt8) : Array Value := #[.int .u8 ((B 0).toNat : Int), .int .u8 ((B 1).toNat : Int), .int .u8 ((B 2).toNat : Int), .int .u8 ((B 3).toNat : Int), .int .u8 ((B 4).toNat : Int), .int .u8 ((B 5).toNat : Int), .int .u8 ((B 6).toNat : Int), .int .u8 ((B 7).toNat : Int), .int .u8 ((B 8).toNat : Int), .int .u8 ((B 9).toNat : Int), .int .u8 ((B 10).toNat : Int), .int .u8 ((B 11).toNat : Int), .int .u8 ((B 12).toNat : Int), .int .u8 ((B 13).toNat : Int), .int .u8 ((B 14).toNat : Int), .int .u8 ((B 15).toNat : Int), .int .u8 ((B 16).toNat : Int), .int .u8 ((B 17).toNat : Int), .int .u8 ((B 18).toNat : Int), .int .u8 ((B 19).toNat : Int)]
/-- The same, with 0 at the place of the check sum. -/
abbrev cz (B : Nat → UInt8) : Array Value := #[.int .u8 ((B 0).toNat : Int), .int .u8 ((B 1).toNat : Int), .int .u8 ((B 2).toNat : Int), .int .u8 ((B 3).toNat : Int), .int .u8 ((B 4).toNat : Int), .int .u8 ((B 5).toNat : Int), .int .u8 ((B 6).toNat : Int), .int .u8 ((B 7).toNat : Int), .int .u8 ((B 8).toNat : Int), .int .u8 ((B 9).toNat : Int), .int .u8 0, .int .u8 0, .int .u8 ((B 12).toNat : Int), .int .u8 ((B 13).toNat : Int), .int .u8 ((B 14).toNat : Int), .int .u8 ((B 15).toNat : Int), .int .u8 ((B 16).toNat : Int), .int .u8 ((B 17).toNat : Int), .int .u8 ((B 18).toNat : Int), .int .u8 ((B 19).toNat : Int)]
/-- A head's value. -/
abbrev hv (B : Nat → UInt8) : Value := .agg (hc B)
/-- A head's bytes. -/
def hl (B : Nat → UInt8) : List UInt8 := [B 0, B 1, B 2, B 3, B 4, B 5, B 6, B 7, B 8, B 9, B 10, B 11, B 12, B 13, B 14, B 15, B 16, B 17, B 18, B 19]
/-- A head's bytes, with 0 at the place of the check sum. -/
def hz (B : Nat → UInt8) : List UInt8 := [B 0, B 1, B 2, B 3, B 4, B 5, B 6, B 7, B 8, B 9, 0, 0, B 12, B 13, B 14, B 15, B 16, B 17, B 18, B 19]
/-- The check sum that belongs into a head. -/
def hs (B : Nat → UInt8) : Nat := 65535 - Pm.fd (Pm.hv true (hz B))

/-- 'string(b)' of a row of bytes. -/
theorem conv_row (W : World) (g cap : Nat) (l : List UInt8) (C : Array Value) (t : TypeId) (hg : W.heap[g]? = some (.cells C t (0, 0))) (hC : C = (l.map fun b => Value.int .u8 (b.toNat : Int)).toArray) :
    (convert 42 9 (.slice (some ⟨g, 0, none⟩) l.length cap)).run Try.prog W = .ok (.string ⟨l.toArray⟩) W := by
  refine run_convert_bytes_back _ 42 9 5 ⟨g, 0, none⟩ cap l Try.underlying42 Try.underlying5 Try.underlying9 ?_
  intro j hj
  have ha : (⟨g, 0, none⟩ : Addr).add j = ⟨g, j, none⟩ := by
    simp only [Addr.add]; split
    · subst_vars; rfl
    · simp
  rw [ha]
  have : W.cell? ⟨g, j, none⟩ = C[j]? := by simp [World.cell?, hg]
  rw [this]
  subst hC
  simp [List.getElem?_eq_getElem hj]

set_option maxHeartbeats 1000000 in
theorem hcheck_any (B : Nat → UInt8) (w : World) :
    Calls Try.prog 31 #[hv B] w fun e w' => e = .returned (.int .i64 (hs B : Int)) ∧ Below w.heap.size w w' := by
  have hcv := conv_row (w.alloc (.cells (cz B) 40)) w.heap.size 20 (hz B) (cz B) 40 (heap_alloc_new _ _) (by simp [hz])
  have hcl : (hz B).length = 20 := rfl
  rw [hcl] at hcv
  have HC : Hid (∀ w', Calls Try.prog 35 #[.string ⟨(hz B).toArray⟩] w' fun e w'' => e = .returned (.int .u16 (hs B : Int)) ∧ w'' = w') := fun w' => check_any ⟨(hz B).toArray⟩ w' (by show (hz B).length ≤ _; rw [hcl]; omega)
  have hle : hs B ≤ 65535 := by unfold hs; omega
  have b0 : Below w.heap.size w (w.alloc (.cells (cz B) 40)) := (Below.refl _ _).alloc (Nat.le_refl _) _
  clear hcl
  generalize (⟨(hz B).toArray⟩ : ByteArray) = S at *
  generalize hs B = R at *
  go_enter Try.func31, Try.ntmps31
  go_wp2_with fail
  refine (HC.out _).mono ?_; rintro e w1 ⟨rfl, rfl⟩
  go_wp2
  go_ret
  exact ⟨rfl, b0⟩

/-- The number of two bytes. -/
def w16 (a b : UInt8) : Nat := a.toNat * 256 + b.toNat
theorem w16_le (a b : UInt8) : w16 a b ≤ 65535 := by
  have := a.toNat_lt
  have := b.toNat_lt
  unfold w16; omega
theorem or_bytes (a b : Nat) (ha : a < 256) (hb : b < 256) : bits BinOp.or IntKind.i64 ((a : Int) * 256) (b : Int) = (a : Int) * 256 + b :=
  bits_join .i64 32 (by decide) wraps_i64 8 ((a : Int) * 256) (b : Int) (by omega) (by omega) (by omega) (by omega) (by omega) (by omega)

set_option maxHeartbeats 1000000 in
theorem htwo_any (B : Nat → UInt8) (q : Int) (k : Nat) (w : World) (hk : (q = 2 ∧ k = 2) ∨ (q = 4 ∧ k = 4) ∨ (q = 6 ∧ k = 6) ∨ (q = 10 ∧ k = 10) ∨ (q = 12 ∧ k = 12) ∨ (q = 14 ∧ k = 14) ∨ (q = 16 ∧ k = 16) ∨ (q = 18 ∧ k = 18)) :
    Calls Try.prog 32 #[hv B, .int .i64 q] w fun e w' => e = .returned (.int .i64 (w16 (B k) (B (k + 1)) : Int)) ∧ Below w.heap.size w w' := by
  have b0 : Below w.heap.size w (w.alloc (.cells (hc B) 40)) := (Below.refl _ _).alloc (Nat.le_refl _) _
  have h1 : (B k).toNat < 256 := (B k).toNat_lt
  have h2 : (B (k + 1)).toNat < 256 := (B (k + 1)).toNat_lt
  have ho := or_bytes (B k).toNat (B (k + 1)).toNat h1 h2
  have HR : Hid ((w16 (B k) (B (k + 1)) : Int) = ((B k).toNat : Int) * 256 + ((B (k + 1)).toNat : Int)) := by show _ = _; unfold w16; omega
  generalize w16 (B k) (B (k + 1)) = R at *
  rcases hk with ⟨rfl, rfl⟩ | ⟨rfl, rfl⟩ | ⟨rfl, rfl⟩ | ⟨rfl, rfl⟩ | ⟨rfl, rfl⟩ | ⟨rfl, rfl⟩ | ⟨rfl, rfl⟩ | ⟨rfl, rfl⟩
  all_goals
    simp only [Nat.reduceAdd] at h1 h2 ho HR
    go_enter Try.func32, Try.ntmps32
    go_wp2
    go_quiet (fail)
    go_wp2
    go_ret
    exact ⟨ret_int HR.out.symm, below_drewN b0 _⟩

/-- The cells of a head, as a list. -/
abbrev hcl (B : Nat → UInt8) : List Value := [.int .u8 ((B 0).toNat : Int), .int .u8 ((B 1).toNat : Int), .int .u8 ((B 2).toNat : Int), .int .u8 ((B 3).toNat : Int), .int .u8 ((B 4).toNat : Int), .int .u8 ((B 5).toNat : Int), .int .u8 ((B 6).toNat : Int), .int .u8 ((B 7).toNat : Int), .int .u8 ((B 8).toNat : Int), .int .u8 ((B 9).toNat : Int), .int .u8 ((B 10).toNat : Int), .int .u8 ((B 11).toNat : Int), .int .u8 ((B 12).toNat : Int), .int .u8 ((B 13).toNat : Int), .int .u8 ((B 14).toNat : Int), .int .u8 ((B 15).toNat : Int), .int .u8 ((B 16).toNat : Int), .int .u8 ((B 17).toNat : Int), .int .u8 ((B 18).toNat : Int), .int .u8 ((B 19).toNat : Int)]
theorem range_new (w : World) (C : Array Value) (t : TypeId) : (w.alloc (.cells C t)).rangeAt w.heap.size 0 C.toList := by
  have := World.rangeAt_of_block (w := w.alloc (.cells C t)) (heap_alloc_new _ _) 0 C.size
  simpa using this
theorem range_keep {w w1 : World} {g : Nat} {cs : List Value} (h : w.rangeAt g 0 cs) (hb : Below w.heap.size w w1) (hg : g < w.heap.size) : w1.rangeAt g 0 cs := fun j v hv => by
  have := h j v hv
  rw [← this]
  exact hb.cell (p := ⟨g, 0 + j, none⟩) hg
theorem info40 : (Try.prog.info? 40).map (·.size) = some 20 := by kernel_rfl
theorem info24 : (Try.prog.info? 24).map (·.size) = some 9 := by kernel_rfl

/-- To take an operation first, the slot that it writes named. -/
theorem takeH {P : Program} {md : Region.Mode} {ops : Array Oper} {Q : Exit → Act → World → Prop} {S : World → Prop} {i : Nat} {oi : Oper} {d : Option Tmp} {v : Value} {fuel : Nat} {listed : Array Bool} {a : Act} {w : World} (hi : ops[i]? = some oi) (hd : oi.dst = d)
    (hs : Region.noSelect ops = true) (hf : Region.free md ops listed i = true) (hr : (Region.ready md ops listed).contains i = true)
    (hQ : ∀ c a w, Q (.panic c) (a.put d v) w → Q (.panic c) a w) (hy : YieldsIf P ops S oi v a) (hS : S w)
    (h : wpAnyH P md ops Q S fuel (listed.setIfInBounds i true) (a.put d v) w) : wpAnyH P md ops Q S (fuel + 1) listed a w := by
  subst hd
  exact wpAnyH_take hi hs hf hr hQ hy hS h

/-- The number of four bytes. -/
def w32 (B : Nat → UInt8) (k : Nat) : Nat := w16 (B k) (B (k + 1)) * 65536 + w16 (B (k + 2)) (B (k + 3))
theorem w32_lt (B : Nat → UInt8) (k : Nat) : w32 B k < 4294967296 := by
  have := w16_le (B k) (B (k + 1))
  have := w16_le (B (k + 2)) (B (k + 3))
  unfold w32; omega
theorem or_words (a b : Nat) (ha : a ≤ 65535) (hb : b ≤ 65535) : bits BinOp.or IntKind.u32 ((a : Int) * 65536) (b : Int) = (a : Int) * 65536 + b :=
  bits_join .u32 32 (by decide) (fun n h0 h1 => by rw [IntKind.wrap_u32]; omega) 16 ((a : Int) * 65536) (b : Int) (by omega) (by omega) (by omega) (by omega) (by omega) (by omega)

end Go.Proofs.Ytlkodoiiigndoaa
