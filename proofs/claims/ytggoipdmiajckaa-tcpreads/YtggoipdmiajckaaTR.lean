/-
  The walk of TcpReads.
-/
import Derived.Test.YtggoipdmiajckaaRRb
namespace Go.Proofs.Ytggoipdmiajckaa
open Go.RowKit
set_option linter.unusedVariables false
set_option linter.unusedSimpArgs false

set_option maxHeartbeats 4000000 in
theorem reads_walk (src dst : Nat) (s : ByteArray) (h1 : src < 4294967296) (h2 : dst < 4294967296) (hs : s.size ≤ 140737488351232) (w : World) :
    Calls Try.prog 4 #[.int .u32 (src : Int), .int .u32 (dst : Int), .string s] w fun e w' => e = .returned (.bool true) ∧ Below w.heap.size w w' := by
  have HA : Hid (∀ w', Calls Try.prog 14 #[.int .u32 (src : Int), .int .u32 (dst : Int), .string s] w' fun e w'' => e = .returned (.tuple #[gv (rres src dst s), .int .i64 (rerr src dst s)]) ∧ Below w'.heap.size w' w'') := fun w' => read_any src dst s w' h1 h2 (by omega)
  have HB : Hid (∀ w', Calls Try.prog 15 #[.int .u32 (src : Int), .int .u32 (dst : Int), .string s] w' fun e w'' => e = .returned (.tuple #[gv (rres src dst s), .int .i64 (rerr src dst s)]) ∧ Below w'.heap.size w' w'') := fun w' => rread_any src dst s w' h1 h2 (by omega)
  generalize rres src dst s = Z at *
  generalize rerr src dst s = E at *
  go_enter Try.func4, Try.ntmps4
  go_wp2_with fail
  refine (HA.out _).mono ?_; rintro e w1 ⟨rfl, hb1⟩
  have P1 := Lib.hid (GB.new w1 Z)
  have b1 := hb1.alloc hb1.size (.cells (gc Z) 26)
  go_wp2_with fail
  refine (HB.out _).mono ?_; rintro e w2 ⟨rfl, hb2⟩
  have P2 := P1.out.keep hb2
  have b2 := b1.trans (hb2.mono b1.size)
  have hlt := P2.lt
  have Q2 := P2.alloc (.cells (gc Z) 26)
  have x0 := P2.c0
  have x1 := P2.c1
  have x2 := P2.c2
  have x3 := P2.c3
  have x4 := P2.c4
  have x5 := P2.c5
  have x6 := P2.c6
  have x7 := P2.c7
  have x8 := P2.c8
  have x9 := P2.c9
  have x10 := P2.c10
  have x11 := P2.c11
  have x12 := P2.c12
  have y0 := Q2.c0
  have y1 := Q2.c1
  have y2 := Q2.c2
  have y3 := Q2.c3
  have y4 := Q2.c4
  have y5 := Q2.c5
  have y6 := Q2.c6
  have y7 := Q2.c7
  have y8 := Q2.c8
  have y9 := Q2.c9
  have y10 := Q2.c10
  have y11 := Q2.c11
  have y12 := Q2.c12
  clear P2 P1 Q2
  go_wp2
  go_ret
  exact ⟨rfl, b2.alloc b2.size _⟩
end Go.Proofs.Ytggoipdmiajckaa
