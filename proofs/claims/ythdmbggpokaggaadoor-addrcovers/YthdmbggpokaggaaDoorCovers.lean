/-
  Contract of Eq at two rows of the same prefixes, and the walk of AddrCovers.
-/
import Derived.Test.YthdmbggpokaggaaDoorEq
import Derived.Test.YthdmbggpokaggaaDoorCoverWalk
namespace Go.Proofs.YthdmbggpokaggaaDoor
open Go.RowKit
set_option linter.unusedVariables false

set_option maxHeartbeats 1000000 in
theorem eq_same (g1 g2 c1 c2 n : Nat) (L : List (Nat × Nat)) (w : World) (h1 : Lies g1 L w) (h2 : Lies g2 L w) (hn : L.length = n) (hn2 : n ≤ 4294967296) :
    Calls Tryd.prog 22 #[.slice (some ⟨g1, 0, none⟩) n c1, .slice (some ⟨g2, 0, none⟩) n c2] w fun e w' => e = .returned (.bool true) ∧ Below w.heap.size w w' := by
  have H1 := Lib.hid h1
  have H2 := Lib.hid h2
  clear h1 h2
  go_enter Tryd.func22, Tryd.ntmps22
  go_wp2
  go_loopw [14] (fun i W => ∃ k : Nat, k ≤ n ∧ i = .int .i64 k ∧ Hid (Lies g1 L W) ∧ Hid (Lies g2 L W) ∧ Below w.heap.size w W) (fun i _ => n - (intOf i).toNat)
  case atStart => exact ⟨0, Nat.zero_le _, rfl, H1, H2, Below.refl _ _⟩
  case round =>
    obtain ⟨k, hk, rfl, l1, l2, hbel⟩ := hrel
    by_cases hlt : k < n
    · obtain ⟨⟨a, b⟩, hab⟩ : ∃ p, L[k]? = some p := ⟨L[k], List.getElem?_eq_getElem (by omega)⟩
      obtain ⟨ca, cb⟩ := l1.out.2 k a b hab
      have g1l := l1.out.1
      have g2l := l2.out.1
      have hs0 := hbel.size
      have HAB := Lib.hid hab
      clear hab
      have ci : (0 : Int) ≤ (k : Int) := by omega
      have cj : (k : Int) < (n : Int) := by omega
      have N3 : ∀ o, (wr.alloc o).cell? ⟨g2, k * 2, none⟩ = some (.int .u32 (a : Int)) := fun o => by
        rw [((Below.refl _ _).alloc (Nat.le_refl _) o : Below wr.heap.size wr (wr.alloc o)).cell (p := ⟨g2, k * 2, none⟩) g2l]; exact (l2.out.2 k a b HAB.out).1
      have N4 : ∀ o, (wr.alloc o).cell? ⟨g2, k * 2 + 1, none⟩ = some (.int .i64 (b : Int)) := fun o => by
        rw [((Below.refl _ _).alloc (Nat.le_refl _) o : Below wr.heap.size wr (wr.alloc o)).cell (p := ⟨g2, k * 2 + 1, none⟩) g2l]; exact (l2.out.2 k a b HAB.out).2
      have L1 : Hid (∀ o q, Hid (Lies g1 L ((wr.alloc o).drewN q))) := fun o q => l1.out.keep g1l (below_drewN ((Below.refl _ _).alloc (Nat.le_refl _) o) q)
      have L2 : Hid (∀ o q, Hid (Lies g2 L ((wr.alloc o).drewN q))) := fun o q => l2.out.keep g2l (below_drewN ((Below.refl _ _).alloc (Nat.le_refl _) o) q)
      have B1 : Hid (∀ o q, Below w.heap.size w ((wr.alloc o).drewN q)) := fun o q => below_drewN (hbel.alloc hs0 o) q
      go_wp2
      go_quiet (fail)
      go_wp2
      go_roundw
      case rel => exact ⟨k + 1, by omega, by go_num, L1.out _ _, L2.out _ _, B1.out _ _⟩
      case measure => simp [intOf]; omega
    · go_wp2
      go_ret
      exact ⟨rfl, hbel⟩

set_option maxHeartbeats 1000000 in
theorem covers_walk (s t : Nat) (w : World) (hs : s < 4294967296) (ht : t < 4294967296) (hT : Tab w) :
    Calls Tryd.prog 5 #[.int .u32 s, .int .u32 t] w fun e w' => e = .returned (.bool true) ∧ Below w.heap.size w w' := by
  by_cases h : t < s
  · have H1 : Hid (∀ w', Calls Tryd.prog 20 #[.int .u32 s, .int .u32 t] w' fun e w'' => e = .returned (.tuple #[.slice none 0 0, .int .i64 1]) ∧ w'' = w') := fun w' => cover_no s t w' h
    have H2 : Hid (∀ w', Calls Tryd.prog 21 #[.int .u32 s, .int .u32 t] w' fun e w'' => e = .returned (.tuple #[.slice none 0 0, .int .i64 1]) ∧ w'' = w') := fun w' => rcov_no s t w' h
    clear hT
    go_enter Tryd.func5, Tryd.ntmps5
    go_wp2_with fail
    refine (H1.out _).mono ?_; rintro e w1 ⟨rfl, hw⟩; rw [hw]; clear hw w1
    go_wp2_with fail
    refine (H2.out _).mono ?_; rintro e w1 ⟨rfl, hw⟩; rw [hw]; clear hw w1
    go_wp2_with fail
    refine (eq_none _).mono ?_; rintro e w1 ⟨rfl, hb⟩
    go_wp2
    go_ret
    exact ⟨rfl, hb⟩
  · have hL := len_62 s (t + 1) (by omega) (by omega)
    have hL1 := len_pos s (t + 1) (by omega)
    have H1 : Hid (∀ w', Tab w' → Calls Tryd.prog 20 #[.int .u32 s, .int .u32 t] w' fun e w'' => ∃ v, e = .returned (.tuple #[v, .int .i64 0]) ∧ w''.ownsRow w'.heap.size 29 2 v (cov s (t + 1)).length (pcells (cov s (t + 1))) ∧ Below w'.heap.size w' w'') := fun w' h' => cover_any s t w' (by omega) ht h'
    have H2 : Hid (∀ w', Calls Tryd.prog 21 #[.int .u32 s, .int .u32 t] w' fun e w'' => ∃ v, e = .returned (.tuple #[v, .int .i64 0]) ∧ w''.ownsRow w'.heap.size 29 2 v (cov s (t + 1)).length (pcells (cov s (t + 1))) ∧ Below w'.heap.size w' w'') := fun w' => rcov_yes s t w' (by omega) ht
    have HT := Lib.hid hT
    clear hT
    generalize cov s (t + 1) = L at *
    generalize hn : L.length = n at *
    go_enter Tryd.func5, Tryd.ntmps5
    go_wp2_with fail
    refine (H1.out _ HT.out).mono ?_; rintro e w1 ⟨v1, rfl, ho1, hb1⟩
    obtain ⟨g1, c1, rfl, hg1, l1⟩ := lies_of ho1 (by omega)
    have L1 := Lib.hid l1
    have hs1 := hb1.size
    clear l1 ho1
    go_wp2_with fail
    refine (H2.out _).mono ?_; rintro e w2 ⟨v2, rfl, ho2, hb2⟩
    obtain ⟨g2, c2, rfl, hg2, l2⟩ := lies_of ho2 (by omega)
    have L2 := Lib.hid l2
    clear l2 ho2
    have L1' : Hid (Lies g1 L w2) := L1.out.keep L1.out.1 hb2
    have b02 := hb1.trans (hb2.mono hs1)
    have hs2 := hb2.size
    go_wp2_with fail
    refine (eq_same g1 g2 c1 c2 n L _ L1'.out L2.out hn (by omega)).mono ?_; rintro e w3 ⟨rfl, hb3⟩
    go_wp2
    go_ret
    exact ⟨rfl, b02.trans (hb3.mono (by omega))⟩
end Go.Proofs.YthdmbggpokaggaaDoor
