/-
  The walk of ConnBlind, in the form that the frame of a law takes.
-/
import Derived.Test.YtnhcjefbiihfjaaWbl
namespace Go.Proofs.Ytnhcjefbiihfjaa
open Go.RowKit
theorem blind_law (iss irs n : Nat) (win : Int) (x : Nat × Int) (w : World) (hi : iss < 4294967296) (hj : irs < 4294967296) (hn : n < 4294967296) (hw : -9223372036854775808 ≤ win ∧ win ≤ 9223372036854775807) (hx : x.1 < 4294967296 ∧ -9223372036854775808 ≤ x.2 ∧ x.2 ≤ 9223372036854775807) :
    Calls Try.prog 4 #[.int .u32 (iss : Int), .int .u32 (irs : Int), .int .u32 (n : Int), .int .i64 win, ev x] w fun e w' => e = .returned (.bool true) ∧ Below w.heap.size w w' :=
  blind_walk iss irs n win x.1 x.2 w hi hj hn hw hx.1 hx.2
end Go.Proofs.Ytnhcjefbiihfjaa
