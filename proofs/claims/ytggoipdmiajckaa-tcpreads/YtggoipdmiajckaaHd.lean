/-
  Blocks of segments that are stored into; contract of headOf (package tcp).
-/
import Derived.Test.YtggoipdmiajckaaMo
import Derived.Deep.CutRange
namespace Go.Proofs.Ytggoipdmiajckaa
open Go.RowKit
set_option linter.unusedVariables false
set_option linter.unusedSimpArgs false

/-- The cells of a segment, as a list. -/
abbrev gcl (g : Sg) : List Value := [.int .u32 (g.sa : Int), .int .i64 g.sp, .int .u32 (g.da : Int), .int .i64 g.dp, .int .u32 (g.sq : Int), .int .u32 (g.ak : Int), .bool g.syn, .bool g.ack, .bool g.fin, .bool g.rst, .int .i64 g.win, .int .i64 g.mss, .string g.body]
abbrev gzc : Array Value := #[.int .u32 0, .int .i64 0, .int .u32 0, .int .i64 0, .int .u32 0, .int .u32 0, .bool false, .bool false, .bool false, .bool false, .int .i64 0, .int .i64 0, .string ⟨#[]⟩]
theorem info26 : (Try.prog.info? 26).map (·.size) = some 13 := by kernel_rfl
theorem gc_one (g : Sg) : (gc g).all (·.oneCell') = true := by
  refine all_oneCell_toArray (cs := gcl g) ?_
  intro v hv
  simp only [List.mem_cons, List.not_mem_nil, or_false] at hv
  rcases hv with rfl | rfl | rfl | rfl | rfl | rfl | rfl | rfl | rfl | rfl | rfl | rfl | rfl <;> rfl
theorem GB.there {b : Nat} {g : Sg} {W : World} (h : GB b g W) : W.there b 0 13 := fun j hj => by
  rw [Nat.zero_add, Joins.cell_of_block h j]
  exact ⟨by rw [Array.getElem?_eq_getElem (show j < (gc g).size from hj)]; rfl, Joins.unfrozen_of_block h j⟩
theorem GB.range {b : Nat} {g : Sg} {W : World} (h : GB b g W) : W.rangeAt b 0 (gcl g) := World.rangeAt_of_block h 0 13
theorem GB.set1 {b : Nat} {C : Array Value} {W : World} (h : W.heap[b]? = some (.cells C 26 (0, 0))) (i : Nat) (v : Value) : (W.setCell ⟨b, i, none⟩ v).heap[b]? = some (.cells (C.setIfInBounds i v) 26 (0, 0)) := Joins.block_setCell (i := i) h v
theorem setCells_block {b : Nat} (vs : List Value) : ∀ (pre old : List Value) (W : World), W.heap[b]? = some (.cells (pre ++ old).toArray 26 (0, 0)) → old.length = vs.length → (W.setCells b pre.length vs).heap[b]? = some (.cells (pre ++ vs).toArray 26 (0, 0)) := by
  induction vs with
  | nil =>
    intro pre old W h hl
    obtain rfl : old = [] := List.length_eq_zero_iff.1 hl
    exact h
  | cons v r ih =>
    intro pre old W h hl
    match old, hl with
    | o :: os, hl =>
      have h1 := GB.set1 h pre.length v
      have e : (pre ++ o :: os).toArray.setIfInBounds pre.length v = ((pre ++ [v]) ++ os).toArray := by simp
      rw [e] at h1
      have h2 := ih (pre ++ [v]) os _ h1 (by simpa using hl)
      have e2 : (pre ++ [v]).length = pre.length + 1 := by simp
      rw [e2] at h2
      have e3 : (pre ++ [v] ++ r) = pre ++ v :: r := by simp
      rw [e3] at h2
      exact h2
theorem GB.put {b : Nat} {g : Sg} {W : World} (h : GB b g W) (q : Sg) : GB b q (W.setCells b 0 (gcl q)) :=
  setCells_block (gcl q) [] (gcl g) W h rfl
/-- Its Mss is set. -/
theorem GB.setM {b : Nat} {g : Sg} {W : World} (h : GB b g W) (m : Int) : GB b { g with mss := m } (W.setCell ⟨b, 11, none⟩ (.int .i64 m)) := GB.set1 h 11 (.int .i64 m)
/-- Its Body is set. -/
theorem GB.setB {b : Nat} {g : Sg} {W : World} (h : GB b g W) (x : ByteArray) : GB b { g with body := x } (W.setCell ⟨b, 12, none⟩ (.string x)) := GB.set1 h 12 (.string x)
theorem GB.set1o {b k : Nat} {g : Sg} {W : World} (h : GB b g W) (hk : b ≠ k) (i : Nat) (v : Value) : GB b g (W.setCell ⟨k, i, none⟩ v) := (heap_setCell_other _ _ _ _ (by exact hk)).trans h
theorem GB.setOther {b k : Nat} {g : Sg} {W : World} (h : GB b g W) (hk : b ≠ k) (l : List Value) (o : Nat := 0) : GB b g (W.setCells k o l) := by
  induction l generalizing W o with
  | nil => exact h
  | cons v r ih => exact ih (h.set1o hk o v) (o + 1)
theorem below_setCells {B b : Nat} {a W : World} (hb : Below B a W) (hB : B ≤ b) (vs : List Value) (o : Nat) : Below B a (W.setCells b o vs) := by
  induction vs generalizing W o with
  | nil => exact hb
  | cons v r ih => exact ih (hb.setCell (p := ⟨b, o, none⟩) hB v) (o + 1)
/-- What is told out of a cell of the call's own. -/
theorem told (W : World) (b : Nat) (p q : Sg) (h : GB b p W) : (loadVar 26 ⟨b, 0, none⟩).run Try.prog (W.setCells b 0 (gcl q)) = .ok (gv q) (W.setCells b 0 (gcl q)) :=
  run_loadVar_mid _ _ _ 26 (gcl q) _ (World.rangeAt_setCells_same _ _ _ _ h.there) Try.underlying26 rfl info26

/-- Whether a bit of the flags is set. -/
def bit (c k : Nat) : Bool := decide (c / k % 2 = 1)
theorem and1_all : ∀ c : Fin 256, (bits BinOp.and IntKind.u8 ((c.val : Nat) : Int) 1 != 0) = bit c.val 1 := by decide +kernel
theorem and2_all : ∀ c : Fin 256, (bits BinOp.and IntKind.u8 ((c.val : Nat) : Int) 2 != 0) = bit c.val 2 := by decide +kernel
theorem and4_all : ∀ c : Fin 256, (bits BinOp.and IntKind.u8 ((c.val : Nat) : Int) 4 != 0) = bit c.val 4 := by decide +kernel
theorem and16_all : ∀ c : Fin 256, (bits BinOp.and IntKind.u8 ((c.val : Nat) : Int) 16 != 0) = bit c.val 16 := by decide +kernel
/-- What the head of a text says of a segment. -/
def hd (src dst : Nat) (s : ByteArray) : Sg := ⟨src, (tw s 0 : Int), dst, (tw s 2 : Int), fo s 4, fo s 8, bit (bt s 13).toNat 2, bit (bt s 13).toNat 16, bit (bt s 13).toNat 1, bit (bt s 13).toNat 4, (tw s 14 : Int), 0, ⟨#[]⟩⟩

set_option maxHeartbeats 4000000 in
theorem headOf_any (src dst : Nat) (s : ByteArray) (w : World) (h : 20 ≤ s.size) (hs : s.size ≤ 281474976710656) :
    Calls Try.prog 35 #[.int .u32 (src : Int), .int .u32 (dst : Int), .string s] w fun e w' => e = .returned (gv (hd src dst s)) ∧ Below w.heap.size w w' := by
  have i13 : ∀ w', (Instr.index 9 (.string s) (.int .i64 13)).run Try.prog w' = .ok (.int .u8 ((bt s 13).toNat : Int)) w' := fun w' => ix_run s 13 13 rfl (by omega) w'
  have T0 : Hid (∀ w', Calls Try.prog 41 #[.string s, .int .i64 0] w' fun e w'' => e = .returned (.int .i64 (tw s 0 : Int)) ∧ Below w'.heap.size w' w'') := fun w' => twoAt_any s 0 0 w' rfl (by omega) hs
  have T2 : Hid (∀ w', Calls Try.prog 41 #[.string s, .int .i64 2] w' fun e w'' => e = .returned (.int .i64 (tw s 2 : Int)) ∧ Below w'.heap.size w' w'') := fun w' => twoAt_any s 2 2 w' rfl (by omega) hs
  have T14 : Hid (∀ w', Calls Try.prog 41 #[.string s, .int .i64 14] w' fun e w'' => e = .returned (.int .i64 (tw s 14 : Int)) ∧ Below w'.heap.size w' w'') := fun w' => twoAt_any s 14 14 w' rfl (by omega) hs
  have T4 : Hid (∀ w', Calls Try.prog 43 #[.string s, .int .i64 4] w' fun e w'' => e = .returned (.int .u32 (fo s 4 : Int)) ∧ Below w'.heap.size w' w'') := fun w' => fourAt_any s 4 4 w' rfl (by omega) hs
  have T8 : Hid (∀ w', Calls Try.prog 43 #[.string s, .int .i64 8] w' fun e w'' => e = .returned (.int .u32 (fo s 8 : Int)) ∧ Below w'.heap.size w' w'') := fun w' => fourAt_any s 8 8 w' rfl (by omega) hs
  have a1 : (bits BinOp.and IntKind.u8 ((bt s 13).toNat : Int) 1 != 0) = bit (bt s 13).toNat 1 := and1_all ⟨(bt s 13).toNat, (bt s 13).toNat_lt⟩
  have a2 : (bits BinOp.and IntKind.u8 ((bt s 13).toNat : Int) 2 != 0) = bit (bt s 13).toNat 2 := and2_all ⟨(bt s 13).toNat, (bt s 13).toNat_lt⟩
  have a4 : (bits BinOp.and IntKind.u8 ((bt s 13).toNat : Int) 4 != 0) = bit (bt s 13).toNat 4 := and4_all ⟨(bt s 13).toNat, (bt s 13).toNat_lt⟩
  have a16 : (bits BinOp.and IntKind.u8 ((bt s 13).toNat : Int) 16 != 0) = bit (bt s 13).toNat 16 := and16_all ⟨(bt s 13).toNat, (bt s 13).toNat_lt⟩
  have HH : Hid (hd src dst s = ⟨src, (tw s 0 : Int), dst, (tw s 2 : Int), fo s 4, fo s 8, bit (bt s 13).toNat 2, bit (bt s 13).toNat 16, bit (bt s 13).toNat 1, bit (bt s 13).toNat 4, (tw s 14 : Int), 0, ⟨#[]⟩⟩) := rfl
  have b0 : Below w.heap.size w (w.alloc (.cells gzc 26)) := (Below.refl _ _).alloc (Nat.le_refl _) _
  have P0 : Hid (GB w.heap.size gz (w.alloc (.cells gzc 26))) := GB.new w gz
  generalize hd src dst s = R at *
  generalize bit (bt s 13).toNat 1 = B1 at *
  generalize bit (bt s 13).toNat 2 = B2 at *
  generalize bit (bt s 13).toNat 4 = B4 at *
  generalize bit (bt s 13).toNat 16 = B16 at *
  generalize ((bt s 13).toNat : Int) = F at *
  generalize tw s 0 = N0 at *
  generalize tw s 2 = N2 at *
  generalize tw s 14 = N14 at *
  generalize fo s 4 = N4 at *
  generalize fo s 8 = N8 at *
  go_enter Try.func35, Try.ntmps35
  go_wp2_with fail
  refine (T0.out _).mono ?_; rintro e w1 ⟨rfl, hb1⟩
  have b1 := b0.trans (hb1.mono (by simp))
  have P1 := Lib.hid (P0.out.keep hb1)
  go_wp2_with fail
  refine (T2.out _).mono ?_; rintro e w2 ⟨rfl, hb2⟩
  have b2 := b1.trans (hb2.mono b1.size)
  have P2 := Lib.hid (P1.out.keep hb2)
  go_wp2_with fail
  refine (T4.out _).mono ?_; rintro e w3 ⟨rfl, hb3⟩
  have b3 := b2.trans (hb3.mono b2.size)
  have P3 := Lib.hid (P2.out.keep hb3)
  go_wp2_with fail
  refine (T8.out _).mono ?_; rintro e w4 ⟨rfl, hb4⟩
  have b4 := b3.trans (hb4.mono b3.size)
  have P4 := Lib.hid (P3.out.keep hb4)
  go_wp2_with fail
  refine (T14.out _).mono ?_; rintro e w5 ⟨rfl, hb5⟩
  have b5 := b4.trans (hb5.mono b4.size)
  have P5 := Lib.hid (P4.out.keep hb5)
  clear hb1 hb2 hb3 hb4 hb5 b1 b2 b3 b4 P0 P1 P2 P3 P4
  have HG := HH.out
  go_wp2_with (refine wpList_store_mid rfl _ _ _ rfl _ _ (gc ⟨src, (N0 : Int), dst, (N2 : Int), N4, N8, B2, B16, B1, B4, (N14 : Int), 0, ⟨#[]⟩⟩) rfl rfl P5.out.there info26 (gc_one _) ?_)
  exact bodyPost_ret (v := gv ⟨src, (N0 : Int), dst, (N2 : Int), N4, N8, B2, B16, B1, B4, (N14 : Int), 0, ⟨#[]⟩⟩) (by simp [results, Try.results35, Act.put, asAddr, told w5 w.heap.size gz ⟨src, (N0 : Int), dst, (N2 : Int), N4, N8, B2, B16, B1, B4, (N14 : Int), 0, ⟨#[]⟩⟩ P5.out]) rfl ⟨by rw [HH.out], below_setCells b5 (Nat.le_refl _) _ _⟩
end Go.Proofs.Ytggoipdmiajckaa
