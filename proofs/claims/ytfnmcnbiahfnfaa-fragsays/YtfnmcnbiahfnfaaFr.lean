/-
  A list of steps that is handed in: how long it is at most.
-/
import Derived.Test.YtfnmcnbiahfnfaaOpen
namespace Go.Proofs.Ytfnmcnbiahfnfaa
open Go.RowKit Go.Deep Go.ChangeShapes Go.WideShapes Go.ChangeAt Go.Joins
set_option linter.unusedVariables false

theorem steps_room {H : Type} {enc : TypeId × Value → H} {W : World} {o : Option Addr} {len cap : Nat} {d : DataW H} {p : List MemPlace} {ts : List TypeId} {ds : List (DataW H)} (h : DataW.Trod enc Try.prog W 0 (fun _ => true) true 31 (.slice o len cap) d p)
    (hz : (DataW.weightsEach Try.prog ts ds).all (· ≤ reachBytes) = true) (ht : ts[0]? = some 31) (hd : ds[0]? = some d) : len * 64 ≤ 140737488355328 := by
  obtain ⟨fuel, hf⟩ := h
  have hf : DataW.trod enc Try.prog W 0 (fun _ => true) true fuel 31 [.slice o len cap] = some (d, p) := hf
  rcases open_slice Try.underlying31 hf with ⟨h0, _⟩ | ⟨a, len', cap', m, n, D, Pl, h0, _, hlc, hcm, hm, hx, _⟩
  · simp at h0
    obtain ⟨rfl, rfl, rfl⟩ := h0
    omega
  · simp at h0
    obtain ⟨rfl, rfl, rfl⟩ := h0
    have hx : d = .slice ((List.range len).map D) ((List.range (m - len)).map fun j => D (len + j)) := congrArg Prod.fst hx
    subst hx
    have h1 := sized_slice hz ht hd Try.underlying31
    rw [List.length_map, List.length_range] at h1
    have h2 : 64 ≤ Try.prog.bytesOf 50 := of_decide_eq_true (by kernel_rfl)
    have h3 := reachBytes_lt
    have h4 := Nat.mul_le_mul (Nat.le_add_right len ((List.range (m - len)).map fun j => D (len + j)).length) h2
    omega
end Go.Proofs.Ytfnmcnbiahfnfaa
