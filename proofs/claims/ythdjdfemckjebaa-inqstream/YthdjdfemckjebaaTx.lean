/-
  How long the texts of a list of steps that is handed in may be.
-/
import Derived.Test.YthdjdfemckjebaaOpen
namespace Go.Proofs.Ythdjdfemckjebaa
open Go.RowKit Go.Deep Go.ChangeShapes Go.WideShapes Go.ChangeAt Go.Joins
set_option linter.unusedVariables false

theorem weightsAll_mem {H : Type} {P : Program} {e : TypeId} {n : Nat} {d : DataW H} : ∀ {l : List (DataW H)}, d ∈ l → n ∈ d.weights P e → n ∈ DataW.weightsAll P e l
  | [], hd, _ => absurd hd (by simp)
  | x :: r, hd, hn => by
    simp only [DataW.weightsAll, List.mem_append]
    rcases List.mem_cons.1 hd with rfl | hd
    · exact Or.inl hn
    · exact Or.inr (weightsAll_mem hd hn)
theorem texts_room {H : Type} {enc : TypeId × Value → H} {W : World} {o : Option Addr} {len cap j : Nat} {d : DataW H} {p : List MemPlace} {ts : List TypeId} {ds : List (DataW H)} {b off : Nat} {C : Nat → List Value} {S : Nat → Stp}
    (h : DataW.Trod enc Try.prog W 0 (fun _ => true) true 22 (.slice o len cap) d p)
    (hz : (DataW.weightsEach Try.prog ts ds).all (· ≤ reachBytes) = true) (ht : ts[j]? = some 22) (hd : ds[j]? = some d) (hb : 0 < len → o = some ⟨b, off, none⟩ ∧ b < W.heap.size) (hS : StepsAt W b off len C S) :
    ∀ i, i < len → (S i).txt.size ≤ 140737488355328 := fun i hi => by
  obtain ⟨fuel, hf⟩ := h
  have hf : DataW.trod enc Try.prog W 0 (fun _ => true) true fuel 22 [.slice o len cap] = some (d, p) := hf
  rcases open_slice Try.underlying22 hf with ⟨h0, _⟩ | ⟨a, len', cap', m, n, D, Pl, h0, _, hlc, hcm, hm, hx, hel⟩
  · simp at h0
    obtain ⟨rfl, rfl, rfl⟩ := h0
    omega
  · simp at h0
    obtain ⟨rfl, rfl, rfl⟩ := h0
    obtain ⟨ha, _⟩ := hb (by omega)
    obtain rfl := Option.some.inj ha
    have hm' : i < m := by rw [hm]; simp; omega
    obtain ⟨cs', hc, hr⟩ := hel i hm'
    rw [cellsStep] at hc
    obtain ⟨_, hl, hcell⟩ := World.cells?_some hc
    obtain ⟨h1, h2⟩ := hS i hi
    have h3 := h1 4 _ h2.c4
    have h4 := hcell 4 (by omega)
    rw [Addr.add_mid, Addr.add_mid, h3] at h4
    obtain ⟨xs, n2, _, hxD, hl2, hlen, hfs⟩ := DataW.trod_struct Try.underlying41 hr
    have hlen : xs.length = 12 := hlen
    obtain ⟨y4, e4⟩ : ∃ y, xs[4]? = some y := ⟨xs[4]'(by omega), List.getElem?_eq_getElem (by omega)⟩
    have f4 : DataW.trod enc Try.prog W 0 (fun _ => true) true n2 9 ((cs'.drop 4).take (Try.prog.cellsOf 9)) = some y4 := (hfs 4 _ rfl).trans e4
    obtain ⟨s, hs, hy, _⟩ := DataW.trod_string Try.underlying9 f4
    rw [cellsStr] at hs
    have hs4 := take_one hs
    rw [← h4] at hs4
    obtain rfl : (S i).txt = s := by
      have := Option.some.inj hs4
      injection this
    have hDi : D i = .agg (xs.map (·.1)) := congrArg Prod.fst hxD
    have hx : d = .slice ((List.range len).map D) ((List.range (m - len)).map fun j => D (len + j)) := congrArg Prod.fst hx
    have w4 : (S i).txt.data.toList.length ∈ (D i).weights Try.prog 41 := by
      rw [hDi]
      simp only [DataW.weights, Try.underlying41]
      refine DataW.weights_mem_each (j := 4) (t := 9) (d := .lit (.string (S i).txt.data.toList)) rfl ?_ _ (by simp [DataW.weights])
      rw [List.getElem?_map, e4, hy]; rfl
    have hw := List.all_eq_true.1 hz _ (DataW.weights_mem_each ht hd (S i).txt.data.toList.length (by
      rw [hx]
      simp only [DataW.weights, Try.underlying22, List.mem_cons, List.mem_append]
      exact Or.inr (Or.inl (weightsAll_mem (List.mem_map.2 ⟨i, List.mem_range.2 hi, rfl⟩) w4))))
    have h5 := reachBytes_lt
    have h6 : (S i).txt.data.toList.length ≤ reachBytes := of_decide_eq_true hw
    have h7 : (S i).txt.size = (S i).txt.data.toList.length := Array.length_toList.symm
    omega
theorem steps_room_at {H : Type} {enc : TypeId × Value → H} {W : World} {o : Option Addr} {len cap j : Nat} {d : DataW H} {p : List MemPlace} {ts : List TypeId} {ds : List (DataW H)} (h : DataW.Trod enc Try.prog W 0 (fun _ => true) true 22 (.slice o len cap) d p)
    (hz : (DataW.weightsEach Try.prog ts ds).all (· ≤ reachBytes) = true) (ht : ts[j]? = some 22) (hd : ds[j]? = some d) : len * 256 ≤ 140737488355328 := by
  obtain ⟨fuel, hf⟩ := h
  have hf : DataW.trod enc Try.prog W 0 (fun _ => true) true fuel 22 [.slice o len cap] = some (d, p) := hf
  rcases open_slice Try.underlying22 hf with ⟨h0, _⟩ | ⟨a, len', cap', m, n, D, Pl, h0, _, hlc, hcm, hm, hx, _⟩
  · simp at h0
    obtain ⟨rfl, rfl, rfl⟩ := h0
    omega
  · simp at h0
    obtain ⟨rfl, rfl, rfl⟩ := h0
    have hx : d = .slice ((List.range len).map D) ((List.range (m - len)).map fun j => D (len + j)) := congrArg Prod.fst hx
    subst hx
    have h1 := sized_slice hz ht hd Try.underlying22
    rw [List.length_map, List.length_range] at h1
    have h2 : 256 ≤ Try.prog.bytesOf 41 := of_decide_eq_true (by kernel_rfl)
    have h3 := reachBytes_lt
    have h4 := Nat.mul_le_mul (Nat.le_add_right len ((List.range (m - len)).map fun j => D (len + j)).length) h2
    omega
end Go.Proofs.Ythdjdfemckjebaa
