/-
  The walk of TcpAgain.
-/
import Derived.Test.YtggoipdmiajckaaRt
namespace Go.Proofs.Ytggoipdmiajckaa
open Go.RowKit
set_option linter.unusedVariables false
set_option linter.unusedSimpArgs false

theorem read_none (w : World) : Calls Try.prog 14 #[.int .u32 0, .int .u32 0, .string ⟨#[]⟩] w fun e w' => e = .returned (.tuple #[.agg gzc, .int .i64 3]) ∧ Below w.heap.size w w' := by
  have h := read_any 0 0 ⟨#[]⟩ w (by omega) (by omega) (by decide)
  obtain ⟨e1, e2⟩ := rerr_none 0 0 ⟨#[]⟩ (by decide)
  rw [e1, e2] at h
  exact h

set_option maxHeartbeats 4000000 in
theorem again_bad (src dst : Nat) (s : ByteArray) (h1 : src < 4294967296) (h2 : dst < 4294967296) (hs : s.size ≤ 140737488351232) (w : World) (he : rerr src dst s ≠ 0) :
    Calls Try.prog 6 #[.int .u32 (src : Int), .int .u32 (dst : Int), .string s] w fun e w' => e = .returned (.bool true) ∧ Below w.heap.size w w' := by
  have HA : Hid (∀ w', Calls Try.prog 14 #[.int .u32 (src : Int), .int .u32 (dst : Int), .string s] w' fun e w'' => e = .returned (.tuple #[.agg gzc, .int .i64 (rerr src dst s)]) ∧ Below w'.heap.size w' w'') := fun w' => by
    have h := read_any src dst s w' h1 h2 (by omega)
    rw [rres_bad he] at h
    exact h
  have HB : Hid (∀ w', Calls Try.prog 14 #[.int .u32 0, .int .u32 0, .string ⟨#[]⟩] w' fun e w'' => e = .returned (.tuple #[.agg gzc, .int .i64 3]) ∧ Below w'.heap.size w' w'') := fun w' => read_none w'
  generalize rerr src dst s = E at *
  have hne : (E != 0) = true := by simpa using he
  go_enter Try.func6, Try.ntmps6
  go_wp2_with fail
  refine (HA.out _).mono ?_; rintro e w1 ⟨rfl, hb1⟩
  have P1 := Lib.hid (GB.new w1 gz)
  have b1 := hb1.alloc hb1.size (.cells gzc 26)
  go_wp2_with fail
  refine (HB.out _).mono ?_; rintro e w2 ⟨rfl, hb2⟩
  have b2 := b1.trans (hb2.mono b1.size)
  have P2 := P1.out.keep hb2
  have Q2 := P2.alloc (.cells gzc 26)
  have hlt := P2.lt
  have x0 : World.cell? (w2.alloc (.cells gzc 26)) ⟨w1.heap.size, 0, none⟩ = some (.int .u32 0) := Q2.c0
  have x1 : World.cell? (w2.alloc (.cells gzc 26)) ⟨w1.heap.size, 1, none⟩ = some (.int .i64 0) := Q2.c1
  have x2 : World.cell? (w2.alloc (.cells gzc 26)) ⟨w1.heap.size, 2, none⟩ = some (.int .u32 0) := Q2.c2
  have x3 : World.cell? (w2.alloc (.cells gzc 26)) ⟨w1.heap.size, 3, none⟩ = some (.int .i64 0) := Q2.c3
  have x4 : World.cell? (w2.alloc (.cells gzc 26)) ⟨w1.heap.size, 4, none⟩ = some (.int .u32 0) := Q2.c4
  have x5 : World.cell? (w2.alloc (.cells gzc 26)) ⟨w1.heap.size, 5, none⟩ = some (.int .u32 0) := Q2.c5
  have x6 : World.cell? (w2.alloc (.cells gzc 26)) ⟨w1.heap.size, 6, none⟩ = some (.bool false) := Q2.c6
  have x7 : World.cell? (w2.alloc (.cells gzc 26)) ⟨w1.heap.size, 7, none⟩ = some (.bool false) := Q2.c7
  have x8 : World.cell? (w2.alloc (.cells gzc 26)) ⟨w1.heap.size, 8, none⟩ = some (.bool false) := Q2.c8
  have x9 : World.cell? (w2.alloc (.cells gzc 26)) ⟨w1.heap.size, 9, none⟩ = some (.bool false) := Q2.c9
  have x10 : World.cell? (w2.alloc (.cells gzc 26)) ⟨w1.heap.size, 10, none⟩ = some (.int .i64 0) := Q2.c10
  have x11 : World.cell? (w2.alloc (.cells gzc 26)) ⟨w1.heap.size, 11, none⟩ = some (.int .i64 0) := Q2.c11
  have x12 : World.cell? (w2.alloc (.cells gzc 26)) ⟨w1.heap.size, 12, none⟩ = some (.string ⟨#[]⟩) := Q2.c12
  clear P1 P2 Q2
  go_wp2
  go_ret
  exact ⟨rfl, b2.alloc b2.size _⟩

set_option maxHeartbeats 4000000 in
theorem again_ok (src dst : Nat) (s : ByteArray) (h1 : src < 4294967296) (h2 : dst < 4294967296) (hs : s.size ≤ 140737488351232) (w : World) (he : rerr src dst s = 0) :
    Calls Try.prog 6 #[.int .u32 (src : Int), .int .u32 (dst : Int), .string s] w fun e w' => e = .returned (.bool true) ∧ Below w.heap.size w w' := by
  obtain ⟨k1, k2, k3, k4, k5, k6⟩ := read_ok src dst s he
  obtain ⟨t1, t2⟩ := there_err (rres src dst s) k1 k4 k5
  rw [k2, k3] at t1 t2
  have HA : Hid (∀ w', Calls Try.prog 14 #[.int .u32 (src : Int), .int .u32 (dst : Int), .string s] w' fun e w'' => e = .returned (.tuple #[gv (rres src dst s), .int .i64 0]) ∧ Below w'.heap.size w' w'') := fun w' => by
    have h := read_any src dst s w' h1 h2 (by omega)
    rw [he] at h
    exact h
  have HB : Hid (∀ w', Calls Try.prog 14 #[.int .u32 0, .int .u32 0, .string ⟨#[]⟩] w' fun e w'' => e = .returned (.tuple #[.agg gzc, .int .i64 3]) ∧ Below w'.heap.size w' w'') := fun w' => read_none w'
  have HW : Hid (∀ w', Calls Try.prog 8 #[gv (rres src dst s)] w' fun e w'' => e = .returned (.tuple #[.string (uw (rres src dst s)), .int .i64 0]) ∧ Below w'.heap.size w' w'') := fun w' => write_ok _ w' k1 (by rw [k2]; exact h1) (by rw [k3]; exact h2) k4 k5
  have HR : Hid (∀ w', Calls Try.prog 14 #[.int .u32 (src : Int), .int .u32 (dst : Int), .string (uw (rres src dst s))] w' fun e w'' => e = .returned (.tuple #[gv (rres src dst s), .int .i64 0]) ∧ Below w'.heap.size w' w'') := fun w' => by
    have h := read_any src dst (uw (rres src dst s)) w' h1 h2 (by omega)
    rw [t1, t2] at h
    exact h
  clear t1 t2 k1 k2 k3 k4 k5 he
  generalize uw (rres src dst s) = U at *
  generalize rres src dst s = G at *
  have v1 : IntKind.i64.wrap ((s.size : Int) + 4) = (s.size : Int) + 4 := by rw [IntKind.wrap_i64]; omega
  have v2 : (U.size : Int) ≤ (s.size : Int) + 4 := by omega
  go_enter Try.func6, Try.ntmps6
  go_wp2_with fail
  refine (HA.out _).mono ?_; rintro e w1 ⟨rfl, hb1⟩
  have P1 := Lib.hid (GB.new w1 G)
  have b1 := hb1.alloc hb1.size (.cells (gc G) 26)
  go_wp2_with fail
  refine (HB.out _).mono ?_; rintro e w2 ⟨rfl, hb2⟩
  have b2 := (b1.trans (hb2.mono b1.size)).alloc (b1.trans (hb2.mono b1.size)).size (.cells gzc 26)
  have P2 := Lib.hid ((P1.out.keep hb2).alloc (.cells gzc 26))
  have x0 := P2.out.c0
  have x1 := P2.out.c1
  have x2 := P2.out.c2
  have x3 := P2.out.c3
  have x4 := P2.out.c4
  have x5 := P2.out.c5
  have x6 := P2.out.c6
  have x7 := P2.out.c7
  have x8 := P2.out.c8
  have x9 := P2.out.c9
  have x10 := P2.out.c10
  have x11 := P2.out.c11
  have x12 := P2.out.c12
  clear P1 b1 hb1 hb2
  go_wp2_with fail
  refine (HW.out _).mono ?_; rintro e w3 ⟨rfl, hb3⟩
  have b3 := b2.trans (hb3.mono b2.size)
  have P3 := Lib.hid (P2.out.keep hb3)
  clear P2 b2 hb3 x0 x1 x2 x3 x4 x5 x6 x7 x8 x9 x10 x11 x12
  go_wp2_with fail
  refine (HR.out _).mono ?_; rintro e w4 ⟨rfl, hb4⟩
  have b4 := b3.trans (hb4.mono b3.size)
  have P4 := P3.out.keep hb4
  have hlt := P4.lt
  have Q4 := P4.alloc (.cells (gc G) 26)
  have x0 := P4.c0
  have x1 := P4.c1
  have x2 := P4.c2
  have x3 := P4.c3
  have x4 := P4.c4
  have x5 := P4.c5
  have x6 := P4.c6
  have x7 := P4.c7
  have x8 := P4.c8
  have x9 := P4.c9
  have x10 := P4.c10
  have x11 := P4.c11
  have x12 := P4.c12
  have y0 := Q4.c0
  have y1 := Q4.c1
  have y2 := Q4.c2
  have y3 := Q4.c3
  have y4 := Q4.c4
  have y5 := Q4.c5
  have y6 := Q4.c6
  have y7 := Q4.c7
  have y8 := Q4.c8
  have y9 := Q4.c9
  have y10 := Q4.c10
  have y11 := Q4.c11
  have y12 := Q4.c12
  clear P3 P4 Q4 b3 hb4
  go_wp2
  go_ret
  exact ⟨rfl, b4.alloc b4.size _⟩

theorem again_walk (src dst : Nat) (s : ByteArray) (h1 : src < 4294967296) (h2 : dst < 4294967296) (hs : s.size ≤ 140737488351232) (w : World) :
    Calls Try.prog 6 #[.int .u32 (src : Int), .int .u32 (dst : Int), .string s] w fun e w' => e = .returned (.bool true) ∧ Below w.heap.size w w' := by
  by_cases he : rerr src dst s = 0
  · exact again_ok src dst s h1 h2 hs w he
  · exact again_bad src dst s h1 h2 hs w he
end Go.Proofs.Ytggoipdmiajckaa
