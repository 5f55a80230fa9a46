/-
  The walk of IpReads.
-/
import Derived.Test.YtlkodoiiigndoaaRR
import Derived.Test.YtlkodoiiigndoaaPs
namespace Go.Proofs.Ytlkodoiiigndoaa
open Go.RowKit
set_option linter.unusedVariables false
set_option linter.unusedSimpArgs false

set_option maxHeartbeats 2000000 in
theorem reads_law (s : ByteArray) (src dst : Nat) (pr ln : Int) (hs : s.size ≤ 140737488351232) (h1 : src < 4294967296) (h2 : dst < 4294967296) (hp : -9223372036854775808 ≤ pr ∧ pr ≤ 9223372036854775807) (hl : -9223372036854775808 ≤ ln ∧ ln ≤ 9223372036854775807) (w : World) :
    Calls Try.prog 4 #[.string s, .int .u32 (src : Int), .int .u32 (dst : Int), .int .i64 pr, .int .i64 ln] w fun e w' => e = .returned (.bool true) ∧ Below w.heap.size w w' := by
  have H12 : Hid (∀ w', Calls Try.prog 12 #[.string s] w' fun e w'' => e = .returned (.tuple #[pv (rt s), .int .i64 (rerr s)]) ∧ Below w'.heap.size w' w'') := fun w' => read_any s (by omega) w'
  have H13 : Hid (∀ w', Calls Try.prog 13 #[.string s] w' fun e w'' => e = .returned (.tuple #[pv (rt s), .int .i64 (rerr s)]) ∧ Below w'.heap.size w' w'') := fun w' => rread_any s (by omega) w'
  have H14 : Hid (∀ w', Calls Try.prog 14 #[.int .u32 (src : Int), .int .u32 (dst : Int), .int .i64 pr, .int .i64 ln] w' fun e w'' => e = .returned (.string (psd src dst pr ln)) ∧ Below w'.heap.size w' w'') := fun w' => pseudo_any src dst pr ln w' h1 h2 hp hl
  have H15 : Hid (∀ w', Calls Try.prog 15 #[.int .u32 (src : Int), .int .u32 (dst : Int), .int .i64 pr, .int .i64 ln] w' fun e w'' => e = .returned (.string (psd src dst pr ln)) ∧ Below w'.heap.size w' w'') := fun w' => rpseudo_any src dst pr ln w' h1 h2 hp hl
  have HU := Lib.hid Try.underlying24
  generalize rt s = q at *
  generalize rerr s = E at *
  generalize psd src dst pr ln = X at *
  go_enter Try.func4, Try.ntmps4
  go_wp2_with fail
  refine (H12.out _).mono ?_; rintro e w1 ⟨rfl, hb1⟩
  have P1 := Lib.hid (PB.new w1 q)
  have b1 := hb1.alloc hb1.size (.cells (pc q) 24)
  go_wp2_with fail
  refine (H13.out _).mono ?_; rintro e w2 ⟨rfl, hb2⟩
  have P2 := Lib.hid ((P1.out.keep hb2).alloc (.cells (pc q) 24))
  have Q2 := Lib.hid (PB.new w2 q)
  have b2 := b1.trans (hb2.mono b1.size)
  have b3 := b2.alloc b2.size (.cells (pc q) 24)
  clear hb1 hb2 P1 b1 b2
  go_wp2_with (first | (refine wpList_load_mid rfl _ _ rfl _ _ rfl (pcl q) _ P2.out.range HU.out rfl info24 ?_) | (refine wpList_load_mid rfl _ _ rfl _ _ rfl (pcl q) _ Q2.out.range HU.out rfl info24 ?_))
  refine (H14.out _).mono ?_; rintro e w3 ⟨rfl, hb3⟩
  have b4 := b3.trans (hb3.mono b3.size)
  go_wp2_with fail
  refine (H15.out _).mono ?_; rintro e w4 ⟨rfl, hb4⟩
  have b5 := b4.trans (hb4.mono b4.size)
  go_wp2
  go_ret
  exact ⟨rfl, b5⟩
end Go.Proofs.Ytlkodoiiigndoaa
