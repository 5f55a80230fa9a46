/-
  Contract of piece (package frag).
-/
import Derived.Test.YtfnmcnbiahfnfaaCln
namespace Go.Proofs.Ytfnmcnbiahfnfaa
open Go.RowKit
set_option linter.unusedVariables false
set_option linter.unusedSimpArgs false

/-- The fragment of p from byte a to byte b. -/
def pce (p : Pk) (a b : Nat) : Pk := { p with off := ((a / 8 : Nat) : Int), more := decide (b < p.body.size), body := p.body.extract a b }

set_option maxHeartbeats 1000000 in
theorem piece_any (p : Pk) (a b : Nat) (w : World) (h1 : a ≤ b) (h2 : b ≤ p.body.size) (hs : p.body.size ≤ 140737488355328) :
    Calls Try.prog 23 #[pv p, .int .i64 (a : Int), .int .i64 (b : Int)] w fun e w' => e = .returned (pv (pce p a b)) ∧ Below w.heap.size w w' := by
  have HC : Hid (∀ w', Calls Try.prog 35 #[.string (p.body.extract a b)] w' fun e w'' => e = .returned (.string (p.body.extract a b)) ∧ Below w'.heap.size w' w'') := fun w' => clone_any _ w' (by simp; omega)
  have hsl : ∀ w', (Instr.slice 9 (.string p.body) (some (.int .i64 (a : Int))) (some (.int .i64 (b : Int))) none).run Try.prog w' = .ok (.string (p.body.extract a b)) w' := fun w' => by
    have := run_slice_string (P := Try.prog) (w := w') 9 p.body .i64 .i64 (a : Int) (b : Int) Try.underlying9 (by omega) (by omega) (by omega)
    simpa using this
  have P0 : Hid (PB w.heap.size { p with off := (a : Int) / 8, more := decide (b < p.body.size) } ((w.alloc (.cells (pc { p with off := (a : Int) / 8, more := decide (b < p.body.size) }) 24)).alloc (.cells pzc 24))) := (PB.new w _).alloc _
  have Z0 : Hid (PB (w.heap.size + 1) pz ((w.alloc (.cells (pc { p with off := (a : Int) / 8, more := decide (b < p.body.size) }) 24)).alloc (.cells pzc 24))) := by
    have := PB.newz (w.alloc (.cells (pc { p with off := (a : Int) / 8, more := decide (b < p.body.size) }) 24))
    rwa [show (w.alloc (.cells (pc { p with off := (a : Int) / 8, more := decide (b < p.body.size) }) 24)).heap.size = w.heap.size + 1 from by simp] at this
  have b0 : Below w.heap.size w ((w.alloc (.cells (pc { p with off := (a : Int) / 8, more := decide (b < p.body.size) }) 24)).alloc (.cells pzc 24)) := ((Below.refl _ _).alloc (Nat.le_refl _) _).alloc (by simp) _
  have HE : Hid (pce p a b = { p with off := (a : Int) / 8, more := decide (b < p.body.size), body := p.body.extract a b }) := rfl
  generalize p.body.extract a b = X at *
  have HU := Lib.hid Try.underlying24
  have HI : Hid ((Try.prog.info? 24).map (·.size) = some 9) := info24
  go_enter Try.func23, Try.ntmps23
  go_wp2_with fail
  refine (HC.out _).mono ?_; rintro e w1 ⟨rfl, hb1⟩
  have P1 := Lib.hid (P0.out.keep hb1)
  have Z1 := Lib.hid (Z0.out.keep hb1)
  have b1 := b0.trans (hb1.mono (by simp; omega))
  have x8 := P1.out.c8
  have f8 := P1.out.free 8
  have S2 := Lib.hid (P1.out.setBody X)
  have Z2 := Lib.hid (Z1.out.setOther (k := w.heap.size) (by omega) 8 (.string X))
  have b2 := b1.setCell (p := ⟨w.heap.size, 8, none⟩) (Nat.le_refl _) (.string X)
  clear P0 Z0 b0 hb1
  go_wp2_with (first | (refine wpList_load_mid rfl _ _ rfl _ _ rfl (pcl _) _ S2.out.range HU.out rfl HI.out ?_) | (refine wpList_store_mid rfl _ _ _ rfl _ _ (pc _) rfl rfl Z2.out.there HI.out (pc_one _) ?_))
  exact bodyPost_ret (v := pv (pce p a b)) (by rw [HE.out]; simp only [results, Try.results23, Act.put, asAddr]; simp; exact told _ _ pz { p with off := (a : Int) / 8, more := decide (b < p.body.size), body := X } Z2.out) rfl ⟨rfl, below_setCells b2 (by omega) _ _⟩
end Go.Proofs.Ytfnmcnbiahfnfaa
