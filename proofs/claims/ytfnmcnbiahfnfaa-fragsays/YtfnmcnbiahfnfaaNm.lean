/-
  What fragments have in common, as a map's key; how a map's elements are told: by the block that they lead to.
-/
import Derived.Test.YtfnmcnbiahfnfaaOpen
import Derived.Maps.RangeWalk
import Derived.Maps.Ext
import Derived.DeepKeys4
namespace Go.Proofs.Ytfnmcnbiahfnfaa
open Go.RowKit Go.Maps Go.WideShapes Go.ChangeShapes Go.ChangeAt Go.Joins
set_option linter.unusedVariables false
set_option linter.unusedSimpArgs false

/-- Src, Dst, Proto, Id. -/
abbrev Nm := Nat × Nat × Int × Int
abbrev nc (n : Nm) : Array Value := #[.int .u32 (n.1 : Int), .int .u32 (n.2.1 : Int), .int .i64 n.2.2.1, .int .i64 n.2.2.2]
abbrev nv (n : Nm) : Value := .agg (nc n)
structure NmWf (n : Nm) : Prop where
  src : n.1 < 4294967296
  dst : n.2.1 < 4294967296
  proto : -9223372036854775808 ≤ n.2.2.1 ∧ n.2.2.1 ≤ 9223372036854775807
  id : -9223372036854775808 ≤ n.2.2.2 ∧ n.2.2.2 ≤ 9223372036854775807
/-- The key as it is told. -/
def nl (n : Nm) : Lit := .string (keyBytes [.int .u32 (n.1 : Int), .int .u32 (n.2.1 : Int), .int .i64 n.2.2.1, .int .i64 n.2.2.2])
/-- A packet's. -/
def nmOf (p : Pk) : Nm := (p.src, p.dst, p.proto, p.id)
theorem nmOf_wf {p : Pk} (f : Fits p) : NmWf (nmOf p) := ⟨f.src, f.dst, f.proto, f.id⟩

theorem laidB : laidOutB Try.prog = true := by kernel_rfl
theorem law74 : Keyed Try.prog 74 := Keyed.of_law (deep_law_laid laidB (m := 5) (by decide) (k := 74) (by decide +kernel) (by kernel_rfl) (by kernel_rfl))
theorem keyType74 : Try.prog.keyType 74 = true := by kernel_rfl
theorem cells74 : Try.prog.cellsOf 74 = 4 := by kernel_rfl
theorem types_size : Try.prog.types.size = 109 := by kernel_rfl
theorem wf_u32 {n : Nat} (h : n < 4294967296) : (Lit.int .u32 (n : Int)).wf = true := by
  exact WalkArith.wf_u32 (by omega)
theorem wf_i64 {n : Int} (h : -9223372036854775808 ≤ n ∧ n ≤ 9223372036854775807) : (Lit.int .i64 n).wf = true := WalkArith.wf_i64 (by omega)
theorem lits74 (d : Nat) {n : Nm} (h : NmWf n) : Try.prog.keyLits (d + 1 + 1) 74 [.int .u32 (n.1 : Int), .int .u32 (n.2.1 : Int), .int .i64 n.2.2.1, .int .i64 n.2.2.2] = some [.int .u32 (n.1 : Int), .int .u32 (n.2.1 : Int), .int .i64 n.2.2.1, .int .i64 n.2.2.2] := by
  simp [Program.keyLits, Try.underlying74, Try.underlying22, Try.underlying3, cells74, cells22, cells3, wf_u32 h.src, wf_u32 h.dst, wf_i64 h.proto, wf_i64 h.id]
theorem nkey {n : Nm} (h : NmWf n) : keyOf Try.prog 74 (nv n) = some (nl n) := by
  have e := lits74 108 h
  unfold keyOf
  rw [Try.underlying74]
  simp only [keyType74, Value.formed, Try.underlying74, cells74, types_size]
  rw [if_pos (by rfl)]
  show (Try.prog.keyLits (108 + 1 + 1) 74 [.int .u32 (n.1 : Int), .int .u32 (n.2.1 : Int), .int .i64 n.2.2.1, .int .i64 n.2.2.2]).map _ = _
  rw [e]; rfl
theorem nl_inj {n m : Nm} (h1 : NmWf n) (h2 : NmWf m) (e : nl n = nl m) : n = m := by
  have := law74.inj (nkey h1) (e ▸ nkey h2)
  obtain ⟨a, b, c, d⟩ := n
  obtain ⟨a', b', c', d'⟩ := m
  simp at this
  obtain ⟨h1, h2, h3, h4⟩ := this
  simp; exact ⟨by omega, by omega, h3, h4⟩
theorem nl_key {n : Nm} (h : NmWf n) : WideAt.IsKeyLit (nl n) := law74.key (nkey h)
theorem lits_u32 {d : Nat} {v : Value} {x : List Lit} (h : Try.prog.keyLits (d + 1) 22 [v] = some x) : ∃ n : Nat, v = .int .u32 (n : Int) ∧ n < 4294967296 := by
  cases v <;> simp [Program.keyLits, Try.underlying22] at h
  obtain ⟨⟨rfl, hw⟩, _⟩ := h
  obtain ⟨l0, u0⟩ := bounds_u32 hw
  obtain ⟨n, rfl⟩ := Int.eq_ofNat_of_zero_le l0
  exact ⟨n, rfl, by omega⟩
theorem lits_i64 {d : Nat} {v : Value} {x : List Lit} (h : Try.prog.keyLits (d + 1) 3 [v] = some x) : ∃ n : Int, v = .int .i64 n ∧ -9223372036854775808 ≤ n ∧ n ≤ 9223372036854775807 := by
  cases v <;> simp [Program.keyLits, Try.underlying3] at h
  obtain ⟨⟨rfl, hw⟩, _⟩ := h
  exact ⟨_, rfl, bounds_i64 hw⟩
/-- What is a key is a name's. -/
theorem key_inv {v : Value} {l : Lit} (h : keyOf Try.prog 74 v = some l) : ∃ n : Nm, v = nv n ∧ NmWf n := by
  unfold keyOf at h
  rw [Try.underlying74] at h
  simp only at h
  split at h
  · rename_i hf
    rw [keyType74] at hf
    cases v <;> simp [Value.formed, Try.underlying74, cells74] at hf
    rename_i cs
    obtain ⟨c⟩ := cs
    match c, hf with
    | [c0, c1, c2, c3], _ =>
      rw [types_size] at h
      have h : (Try.prog.keyLits (107 + 1 + 1 + 1) 74 [c0, c1, c2, c3]).map (fun ls => Lit.string (keyBytes ls)) = some l := h
      rw [Option.map_eq_some_iff] at h
      obtain ⟨ls, h, _⟩ := h
      unfold Program.keyLits at h
      simp only [Try.underlying74] at h
      simp [cells74, cells22, cells3] at h
      rcases k0 : Try.prog.keyLits 109 22 [c0] with _ | y0
      · simp [k0] at h
      rcases k1 : Try.prog.keyLits 109 22 [c1] with _ | y1
      · simp [k0, k1] at h
      rcases k2 : Try.prog.keyLits 109 3 [c2] with _ | y2
      · simp [k0, k1, k2] at h
      rcases k3 : Try.prog.keyLits 109 3 [c3] with _ | y3
      · simp [k0, k1, k2, k3] at h
      obtain ⟨a, rfl, ha⟩ := lits_u32 (d := 108) k0
      obtain ⟨b, rfl, hb⟩ := lits_u32 (d := 108) k1
      obtain ⟨c, rfl, hc⟩ := lits_i64 (d := 108) k2
      obtain ⟨d, rfl, hd⟩ := lits_i64 (d := 108) k3
      exact ⟨(a, b, c, d), rfl, ⟨ha, hb, hc, hd⟩⟩
  · cases h

/-- How an element of the map is told: by the block that it leads to. -/
def gp : Value → Option (DataW Unit × List MemPlace)
  | .pointer none => some (.nil, [])
  | .pointer (some ⟨b, 0, none⟩) => some (.lit (.int .i64 (b : Int)), [])
  | _ => none
theorem gp_nil : gp (.pointer none) = some (.nil, []) := rfl
theorem gp_some (b : Nat) : gp (.pointer (some ⟨b, 0, none⟩)) = some (.lit (.int .i64 (b : Int)), []) := rfl
theorem gp_inv_nil {v : Value} {ps : List MemPlace} (h : gp v = some (.nil, ps)) : v = .pointer none := by
  unfold gp at h
  split at h
  · rfl
  · simp at h
  · cases h
theorem gp_inv_some {v : Value} {b : Nat} {ps : List MemPlace} (h : gp v = some (.lit (.int .i64 (b : Int)), ps)) : v = .pointer (some ⟨b, 0, none⟩) := by
  unfold gp at h
  split at h
  · simp at h
  · rename_i b'
    simp at h
    obtain ⟨h, _⟩ := h
    rw [show b' = b from by omega]
  · cases h
theorem zero75 (w : World) : (zeroValue 75).run Try.prog w = .ok (.pointer none) w := by kernel_rfl
end Go.Proofs.Ytfnmcnbiahfnfaa
