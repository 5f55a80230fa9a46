/-
  The walk of AddrParses.
-/
import Derived.Test.YthdmbggpokaggaaDoorRefA
import Derived.Test.YthdmbggpokaggaaDoorRefPr
namespace Go.Proofs.YthdmbggpokaggaaDoor
open Go.RowKit
set_option linter.unusedVariables false

set_option maxHeartbeats 2000000 in
theorem parses_walk (a : Nat) (l : List UInt8) (m : Int) (w : World) (ha : a < 4294967296) (hl : l.length < 4294967281) (hm : w.cell? ⟨1, 0, none⟩ = some (.int .i64 m)) (hp : Pow w) :
    Calls Tryd.prog 3 #[.int .u32 a, .string ⟨l.toArray⟩] w fun e w' => e = .returned (.bool true) ∧ Below w.heap.size w w' := by
  have HP0 : Hid (Calls Tryd.prog 8 #[.string ⟨l.toArray⟩] w fun e w'' => e = .returned (ended (parseL l)) ∧ ∃ n, w'' = w.drewN n) := parse_any l w (by omega)
  have HR : Hid (∀ n, Calls Tryd.prog 9 #[.string ⟨l.toArray⟩] (w.drewN n) fun e w'' => e = .returned (ended (parseL l)) ∧ Below (w.drewN n).heap.size (w.drewN n) w'') := fun n => rparse_any l m (w.drewN n) hl (by simpa using hm)
  have HA : Hid (∀ w', Pow w' → Calls Tryd.prog 10 #[.int .u32 a] w' fun e w'' => e = .returned (.string ⟨(prtL a).toArray⟩) ∧ Below w'.heap.size w' w'') := fun w' h => print_any a ha w' h
  have HB : Hid (∀ w', Calls Tryd.prog 11 #[.int .u32 a] w' fun e w'' => e = .returned (.string ⟨(prtL a).toArray⟩) ∧ Below w'.heap.size w' w'') := fun w' => rprint_any a ha w'
  have PK : Hid (∀ n W, Below (w.drewN n).heap.size (w.drewN n) W → Pow W) := fun n W hb => hp.keep ((below_drewN (Below.refl _ _) n).trans (hb.mono (by simp)))
  have B0 : Hid (∀ n, Below w.heap.size w (w.drewN n)) := fun n => below_drewN (Below.refl _ _) n
  have S0 : Hid (∀ n, (w.drewN n).heap.size = w.heap.size) := fun n => by simp
  clear hp hm
  have hend : ∃ (V : Nat) (E : Int), ended (parseL l) = .tuple #[.int .u32 (V : Int), .int .i64 E] := ⟨_, _, rfl⟩
  obtain ⟨V, E, hend⟩ := hend
  rw [hend] at HP0 HR
  clear hend
  generalize (⟨(prtL a).toArray⟩ : ByteArray) = D at *
  go_enter Tryd.func3, Tryd.ntmps3
  go_wp2_with fail
  refine HP0.out.mono ?_; rintro e w1 ⟨rfl, n, rfl⟩
  have HRn := Lib.hid (HR.out n)
  have PKn := Lib.hid (PK.out n)
  have B0n := Lib.hid (B0.out n)
  have S0n := S0.out n
  clear HP0 HR PK B0 S0
  generalize w.drewN n = W1 at *
  go_wp2_with fail
  refine HRn.out.mono ?_; rintro e w2 ⟨rfl, hb2⟩
  have P2 := Lib.hid (PKn.out _ hb2)
  have s2 := hb2.size
  clear HRn PKn
  go_wp2_with fail
  refine (HA.out _ P2.out).mono ?_; rintro e w3 ⟨rfl, hb3⟩
  have s3 := hb3.size
  go_wp2_with fail
  refine (HB.out _).mono ?_; rintro e w4 ⟨rfl, hb4⟩
  go_wp2
  go_ret
  exact ⟨by simp, ((B0n.out.trans (hb2.mono (by omega))).trans (hb3.mono (by omega))).trans (hb4.mono (by omega))⟩
end Go.Proofs.YthdmbggpokaggaaDoor
