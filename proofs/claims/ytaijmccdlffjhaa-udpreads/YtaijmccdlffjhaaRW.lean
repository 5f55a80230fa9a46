/-
  Contract of the document's UdpWrite.
-/
import Derived.Test.YtaijmccdlffjhaaRB
namespace Go.Proofs.Ytaijmccdlffjhaa
open Go.RowKit
set_option linter.unusedVariables false
set_option linter.unusedSimpArgs false

theorem rwrite_bad (g : Gr) (w : World) (h : gchk g ≠ 0) :
    Calls Try.prog 8 #[gv g] w fun e w' => e = .returned (.tuple #[.string ⟨#[]⟩, .int .i64 (gchk g)]) ∧ Below w.heap.size w w' := by
  have HC : Hid (∀ w', Calls Try.prog 10 #[gv g] w' fun e w'' => e = .returned (.int .i64 (gchk g)) ∧ Below w'.heap.size w' w'') := fun w' => rchk_any g w'
  have b0 : Below w.heap.size w (w.alloc (.cells (gc g) 26)) := (Below.refl _ _).alloc (Nat.le_refl _) _
  generalize gchk g = c at *
  have hne : (c != 0) = true := by simpa using h
  go_enter Try.func8, Try.ntmps8
  go_wp2_with fail
  refine (HC.out _).mono ?_; rintro e w1 ⟨rfl, hb1⟩
  go_wp2
  go_ret2
  exact ⟨rfl, b0.trans (hb1.mono (by simp))⟩

theorem rwrite_ok (g : Gr) (w : World) (h : gchk g = 0) (hsa : g.sa < 4294967296) (hda : g.da < 4294967296) :
    Calls Try.prog 8 #[gv g] w fun e w' => e = .returned (.tuple #[.string (uw g), .int .i64 0]) ∧ Below w.heap.size w w' := by
  obtain ⟨p1, p2, p3, p4, hs⟩ := gchk_ok h
  have HC : Hid (∀ w', Calls Try.prog 10 #[gv g] w' fun e w'' => e = .returned (.int .i64 0) ∧ Below w'.heap.size w' w'') := fun w' => by
    have := rchk_any g w'
    rwa [h] at this
  have HB : Hid (∀ w', Calls Try.prog 17 #[gv g] w' fun e w'' => e = .returned (.string (uw g)) ∧ Below w'.heap.size w' w'') := fun w' => rbytes_any g w' (by omega) p2 (by omega) p4 (by omega) hsa hda
  have b0 : Below w.heap.size w (w.alloc (.cells (gc g) 26)) := (Below.refl _ _).alloc (Nat.le_refl _) _
  have P0 := Lib.hid (GB.new w g)
  generalize uw g = R at *
  clear h
  go_enter Try.func8, Try.ntmps8
  go_wp2_with fail
  refine (HC.out _).mono ?_; rintro e w1 ⟨rfl, hb1⟩
  have P1 := Lib.hid (P0.out.keep hb1)
  have b1 := b0.trans (hb1.mono (by simp))
  have x0 := P1.out.c0
  have x1 := P1.out.c1
  have x2 := P1.out.c2
  have x3 := P1.out.c3
  have x4 := P1.out.c4
  go_wp2_with fail
  refine (HB.out _).mono ?_; rintro e w2 ⟨rfl, hb2⟩
  have b2 := b1.trans (hb2.mono (Nat.le_of_lt P1.out.lt))
  go_wp2
  go_ret2
  exact ⟨rfl, b2⟩

/-- What Write says, whatever is handed in. -/
def wtx (g : Gr) : ByteArray := if gchk g = 0 then uw g else ⟨#[]⟩
theorem write_any (g : Gr) (w : World) (hsa : g.sa < 4294967296) (hda : g.da < 4294967296) :
    Calls Try.prog 7 #[gv g] w fun e w' => e = .returned (.tuple #[.string (wtx g), .int .i64 (gchk g)]) ∧ Below w.heap.size w w' := by
  by_cases h : gchk g = 0
  · unfold wtx; rw [if_pos h, h]; exact write_ok g w h hsa hda
  · unfold wtx; rw [if_neg h]; exact write_bad g w h
theorem rwrite_any (g : Gr) (w : World) (hsa : g.sa < 4294967296) (hda : g.da < 4294967296) :
    Calls Try.prog 8 #[gv g] w fun e w' => e = .returned (.tuple #[.string (wtx g), .int .i64 (gchk g)]) ∧ Below w.heap.size w w' := by
  by_cases h : gchk g = 0
  · unfold wtx; rw [if_pos h, h]; exact rwrite_ok g w h hsa hda
  · unfold wtx; rw [if_neg h]; exact rwrite_bad g w h
end Go.Proofs.Ytaijmccdlffjhaa
